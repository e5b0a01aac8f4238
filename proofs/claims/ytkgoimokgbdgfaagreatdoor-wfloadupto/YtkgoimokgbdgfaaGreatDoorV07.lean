import Derived.Deep.RegionWith
import Derived.Laws.Tables
import Derived.Sort.OwnSortedInts
import Derived.Deep.RegionLawGrows
import Derived.ArgAppend
import Derived.Test.YtkgoimokgbdgfaaGreatDoorV06

namespace Go.Proofs.YtkgoimokgbdgfaaGreatDoor
open Go.RowKit
open Go.Value (int pointer agg)
open Go.IntKind (i64)
set_option maxRecDepth 20000
set_option maxHeartbeats 8000000
variable {B b c f j k m n o:Nat}{L:List Nat}{P:Pr8}{a:Option Addr}{ad:Addr}{ev:Operand→Value}{oi:Oper}{v v0 v1 v2:Value}{vs:List Value}{w w':World}{x y:Operand}
section
open Go.Shelf
def QO(w:World)(P:Pr8)(f b i:Nat)(e:Ending)(w':World):Prop:=
 zc [] w w'∧((i<(zr (zg P f) b).code.length∧∃ a cp,e=.returned (atV (qQ (zr (zg P f) b) i) (.slice a (qQ (zr (zg P f) b) i).args.length cp))∧zw w' a (qQ (zr (zg P f) b) i).args∧zpI (qQ (zr (zg P f) b) i))∨(¬ i<(zr (zg P f) b).code.length∧e=.returned zlM))
theorem zcB{pb po:Nat}(h:PrC w pb po P)(hs:Sm8 P)(f b i:Nat)(hp:J1 P f b i):
  Calls Tryz.prog 74 #[pointer (some ⟨pb,po,none⟩),ptV f b i] w (QO w P f b i):=by
 obtain ⟨W,hW⟩:∃ W,W=(w.alloc (.cells #[int i64 (f:Int),int i64 (b:Int),int i64 (i:Int)] 55)).alloc (.cells #[int i64 0,int i64 0,int i64 0,int i64 0,int i64 0,.slice none 0 0] 39):=⟨_,rfl⟩;have HW:=hid hW;have k1:=zc.alloc [] w (.cells #[int i64 (f:Int),int i64 (b:Int),int i64 (i:Int)] 55);have k2:=zc.alloc [] (w.alloc (.cells #[int i64 (f:Int),int i64 (b:Int),int i64 (i:Int)] 55)) (.cells #[int i64 0,int i64 0,int i64 0,int i64 0,int i64 0,.slice none 0 0] 39);have KW:Box (zc [] w W):=hid (by rw[hW];exact k1.quiet k2);have hq:W.heap[w.heap.size]? = some (.cells #[int i64 (f:Int),int i64 (b:Int),int i64 (i:Int)] 55 (0,0)):=by rw[hW];exact ze (zf _ _) k2
 have hz:W.heap[w.heap.size+1]? = some (.cells #[int i64 0,int i64 0,int i64 0,int i64 0,int i64 0,.slice none 0 0] 39 (0,0)):=by
  rw[hW];have:=zf (w.alloc (.cells #[int i64 (f:Int),int i64 (b:Int),int i64 (i:Int)] 55)) (.cells #[int i64 0,int i64 0,int i64 0,int i64 0,int i64 0,.slice none 0 0] 39);rw[World.size_alloc] at this;exact this
 obtain ⟨fa,fcp,H⟩:=h.fns;obtain ⟨fb,fo,ba,bcp,rfl,B⟩:=H.at hp.1;obtain ⟨bb,bo,rfl,L⟩:=B.at hp.2.1;obtain ⟨ca,ccp,hcc0,hrows,_⟩:=L.c0;have hcc:=za KW.o hcc0;have h4:=za KW.o H.cell;have h2:=za KW.o B.cell;have p0:W.cell? ⟨w.heap.size,0,none⟩=some (int i64 (f:Int)):=zd hq 0;have p1:W.cell? ⟨w.heap.size,1,none⟩=some (int i64 (b:Int)):=zd hq 1;have p2:W.cell? ⟨w.heap.size,2,none⟩=some (int i64 (i:Int)):=zd hq 2;have hf:=hp.1;have hb:=hp.2.1;have hi:=hp.2.2;have hf12:=hs.fn;have hb14:=hs.bk f hf;have hc9:=hs.code hf hb;have FIN:Box (i<(zr (zg P f) b).code.length→∀ a cp w',zc [] w w'→zw w' a (qQ (zr (zg P f) b) i).args→zpI (qQ (zr (zg P f) b) i)→QO w P f b i (.returned (.tuple #[agg #[int i64 (qQ (zr (zg P f) b) i).op,int i64 (qQ (zr (zg P f) b) i).dst,int i64 (qQ (zr (zg P f) b) i).a,int i64 (qQ (zr (zg P f) b) i).b,int i64 (qQ (zr (zg P f) b) i).n,.slice a (qQ (zr (zg P f) b) i).args.length cp],.bool true])) w'):=hid fun h1 a cp w' h2 h3 h4=>⟨h2,.inl ⟨h1,a,cp,rfl,h3,h4⟩⟩;have FIE:Box (¬ i<(zr (zg P f) b).code.length→∀ w',zc [] w w'→QO w P f b i (.returned zlM) w'):=hid fun h1 w' h2=>⟨h2,.inr ⟨h1,rfl⟩⟩;have HRW:=hid hrows;clear h hs hp k1 k2 H B L hrows hW hcc0;generalize hNf:P.funcs.length=N at *;generalize hMb:(zg P f).blocks.length=M at *;clear hNf hMb;generalize zr (zg P f) b=x at *;have g0:¬ (f:Int)<0:=by omega
 have g1:¬ (N:Int)≤(f:Int):=by omega
 have g1':(f:Int)<(N:Int):=by omega
 have g2:¬ (b:Int)<0:=by omega
 have g3:¬ (M:Int)≤(b:Int):=by omega
 have g3':(b:Int)<(M:Int):=by omega
 have g4:¬ (i:Int)<0:=by omega
 have z0:=zi hz 0;have z1:=zi hz 1;have z2:=zi hz 2;have z3:=zi hz 3;have z4:=zi hz 4;have z5:=zi hz 5;have c0:=zd hz 0;have c1:=zd hz 1;have c2:=zd hz 2;have c3:=zd hz 3;have c4:=zd hz 4;have c5:=zd hz 5;have HHZ:=hid hz;have hzl:w.heap.size≤w.heap.size+1:=by omega
 unfold ptV;by_cases hin:i<x.code.length
 ·obtain ⟨cb,co,rfl,h3⟩:=HRW.o.at (zm0 hin)
  obtain ⟨hok,ar,acp,y50,y6,_⟩:=h3.open;have y5:=za KW.o y50;have y0:=za KW.o h3.c0.1;have y1:=za KW.o h3.c1.1;have y2:=za KW.o h3.c2.1;have y3:=za KW.o h3.c3.1;have y4:=za KW.o h3.c4.1;have HY6:=hid y6;have HOK:=hid hok;have HIN:=hid hin;have g5:¬ (x.code.length:Int)≤(i:Int):=by omega
  have g5':(i:Int)<(x.code.length:Int):=by omega
  clear h3 y6 hok HRW hq hz y50;generalize x.code.length=n at *;generalize (qQ x i).op=v0 at *;generalize (qQ x i).dst=v1 at *;generalize (qQ x i).a=v2 at *;generalize (qQ x i).b=v3 at *;generalize (qQ x i).n=v4 at *;generalize (qQ x i).args=ag at *;go_enter Tryz.func74,Tryz.ntmps74;go_upto_region 1 with fail;rw[← HW.o];clear HW;generalize hq0:w.heap.size=q at *;go_quiet (fail);go_wp2_with fail
  go_region
  go_wp2_with fail;have h6:=zpR (w:=W.drewN (nq+1)) HHZ.o (int i64 v0) (int i64 v1) (int i64 v2) (int i64 v3) (int i64 v4) (.slice ar ag.length acp);have e0:=zd h6 0;have e1:=zd h6 1;have e2:=zd h6 2;have e3:=zd h6 3;have e4:=zd h6 4;have e5:=zd h6 5;have KF:=(KW.o.quiet (zc.drewN [] W (nq+1))).fresh (zlu (W.drewN (nq+1)) (q+1) (int i64 v0) (int i64 v1) (int i64 v2) (int i64 v3) (int i64 v4) (.slice ar ag.length acp)) (fun x hx=>by simp at hx;omega);refine bodyPost_ret (v:=.tuple #[agg #[int i64 v0,int i64 v1,int i64 v2,int i64 v3,int i64 v4,.slice ar ag.length acp],.bool true]) (by simp[results,Tryz.results74,go_sem,e0,e1,e2,e3,e4,e5]) rfl ?_;exact FIN.o HIN.o ar acp _ KF (HY6.o.kept KF (fun _ _ _=>by simp)) HOK.o
 ·have hne:i=x.code.length:=by omega
  have HIN:=hid hin;have g5:(x.code.length:Int)≤(i:Int):=by omega
  clear HRW FIN hq hz;generalize x.code.length=n at *;clear hne hin;go_enter Tryz.func74,Tryz.ntmps74;go_upto_region 1 with fail;rw[← HW.o];clear HW;generalize hq0:w.heap.size=q at *;go_quiet (fail);go_wp2_with fail;have h6:=zpR (w:=W.drewN nq) HHZ.o (int i64 0) (int i64 0) (int i64 0) (int i64 0) (int i64 0) (.slice none 0 0);have e0:=zd h6 0;have e1:=zd h6 1;have e2:=zd h6 2;have e3:=zd h6 3;have e4:=zd h6 4;have e5:=zd h6 5;have KF:=(KW.o.quiet (zc.drewN [] W nq)).fresh (zlu (W.drewN nq) (q+1) (int i64 0) (int i64 0) (int i64 0) (int i64 0) (int i64 0) (.slice none 0 0)) (fun x hx=>by simp at hx;omega);exact bodyPost_ret (v:=zlM) (by simp[results,Tryz.results74,go_sem,zlM,zD,ziw,e0,e1,e2,e3,e4,e5]) rfl (FIE.o HIN.o _ KF)
end
def wF(x:Fu8):Nat→Nat
 | 0=>0
 | m+1=>wF x m+(1+min 1000 (zr x m).code.length)
def wP(P:Pr8):Nat→Nat
 | 0=>0
 | k+1=>wP P k+wF (zg P k) (zg P k).blocks.length
theorem zjI(x:Fu8):∀ m,wF x m≤1001 * m
 | 0=>Nat.zero_le _
 | m+1=>by
  have:=zjI x m;rw[wF];omega
theorem zok(x:Fu8):∀ m,wF x m≤150→zfF x m=wF x m
 | 0,_=>rfl
 | m+1,h=>by
  rw[wF] at h;have:=zok x m (by omega);rw[Qa,wF,this];omega
theorem zo2(P:Pr8):∀ k,wP P k≤150→zgK P k=wP P k
 | 0,_=>rfl
 | k+1,h=>by
  rw[wP] at h;have h1:=zo2 P k (by omega);have h2:=zok (zg P k) (zg P k).blocks.length (by omega);rw[JH,wP,h1,h2]
theorem zhb(w:World):Calls Tryz.prog 15 #[.pointer none] w fun e w'=>e=.returned (.bool false)∧w'=w:=by
 go_enter Tryz.func15,Tryz.ntmps15;go_wp2;go_ret;exact ⟨rfl,rfl⟩
theorem znm(b:Nat)(a:Int)(w:World)(h:¬ (0≤a∧a<5000)):
  Calls Tryz.prog 121 #[pointer (some ⟨b,0,none⟩),int i64 a] w fun e w'=>e=.returned (.bool false)∧w'=w:=by
 have H:=hid h;clear h;go_enter Tryz.func121,Tryz.ntmps121;go_wp2_with (go_at_call 109;refine (zln _ _ H.o).mono ?_;rintro e w' ⟨rfl,rfl⟩);go_ret;exact ⟨rfl,rfl⟩
theorem zo6(b n:Nat)(w:World)(h:n<5000)
  (hh:∀ w1,w1=w→Calls Tryz.prog 59 #[pointer (some ⟨b,0,none⟩),int i64 n] w1 fun e w'=>e=.returned (.bool true)∧∃ m,w'=w1.drewN m):
  Calls Tryz.prog 121 #[pointer (some ⟨b,0,none⟩),int i64 n] w fun e w'=>e=.returned (.bool false)∧∃ m,w'=w.drewN m:=by
 have H:=hid hh;clear hh;go_enter Tryz.func121,Tryz.ntmps121;go_wp2_with fail;refine (zem n _ h).mono ?_;rintro e w' ⟨rfl,rfl⟩;go_wp2_with fail;refine (H.o _ rfl).mono ?_;rintro e w' ⟨rfl,m,rfl⟩;go_wp2;go_ret;exact ⟨rfl,_,rfl⟩
theorem zlc(b n k p x z:Nat)(w:World)(h:n<5000)(hk:k<79)(hz:bits BinOp.or IntKind.u64 (x:Int) (p:Int)=(z:Int))(hc:w.cell? ⟨b,k,none⟩=some (.int .u64 x))(hfz:w.frozen? ⟨b,k,none⟩=false)
  (hh:∀ w1,w1=w→Calls Tryz.prog 59 #[pointer (some ⟨b,0,none⟩),int i64 n] w1 fun e w'=>e=.returned (.bool false)∧∃ m,w'=w1.drewN m)
  (hpl:∀ w1,Calls Tryz.prog 110 #[int i64 n] w1 fun e w'=>e=.returned (.tuple #[int i64 k,.int .u64 p])∧∃ m,w'=w1.drewN m):
  Calls Tryz.prog 121 #[pointer (some ⟨b,0,none⟩),int i64 n] w fun e w'=>e=.returned (.bool true)∧∃ m,w'=(w.setCell ⟨b,k,none⟩ (.int .u64 z)).drewN m:=by
 have H:=hid hh;have H2:=hid hpl;clear hh hpl;go_enter Tryz.func121,Tryz.ntmps121;go_wp2_with fail;refine (zem n _ h).mono ?_;rintro e w' ⟨rfl,rfl⟩;go_wp2_with fail;refine (H.o _ rfl).mono ?_;rintro e w' ⟨rfl,m,rfl⟩;go_wp2_with fail;refine (H2.o _).mono ?_;rintro e w' ⟨rfl,m2,rfl⟩;go_wp2
 go_region
 go_wp2;go_ret;exact ⟨rfl,_,rfl⟩
theorem zcp(n:Nat)(hn:n<5000)(w1:World):Calls Tryz.prog 110 #[int i64 (n:Int)] w1 fun e w'=>e=.returned (.tuple #[int i64 ((n / 64:Nat):Int),.int .u64 ((2 ^ (n % 64):Nat):Int)])∧∃ m,w'=w1.drewN m:=by
 refine (zdt n w1 hn).mono ?_;rintro e w' ⟨k,p,he,_,_,hh,hw⟩;obtain ⟨rfl,rfl⟩:=hh.o;exact ⟨he,hw⟩
theorem zcC(b:Nat)(s:Nat→Bool)(a:Int)(w:World)(hs:zV w b s)(hf:Fit s):
  Calls Tryz.prog 121 #[pointer (some ⟨b,0,none⟩),int i64 a] w fun e w'=>e=.returned (.bool (decide (0≤a∧a<5000) && !Q6 s a))∧zV w' b (zdY s a)∧zc [b] w w':=by
 by_cases h:0≤a∧a<5000
 ·have hd:decide (0≤a∧a<5000)=true:=by simpa using h
  rw[hd];obtain ⟨n,rfl⟩:=Int.eq_ofNat_of_zero_le h.1;have hn:n<5000:=by omega
  have e2:Q6 s (n:Int)=s n:=by simp[Q6]
  rw[e2];have hh:∀ w1,w1=w→Calls Tryz.prog 59 #[pointer (some ⟨b,0,none⟩),int i64 (n:Int)] w1 fun e w'=>e=.returned (.bool (s n))∧∃ m,w'=w1.drewN m:=by
   intro w1 hw;subst hw;have:=Jx b s n w1 hs hf;rw[e2] at this;exact this
  cases hsn:s n
  ·have hp:2 ^ (n % 64)<18446744073709551616:=QR (Nat.mod_lt _ (by decide))
   have hc:=hs.cell (k:=n / 64) (by omega);rw[hsn] at hh;refine (zlc b n (n / 64) (2 ^ (n % 64)) (wd s (n / 64)) (wd s (n / 64) ||| 2 ^ (n % 64)) w hn (by omega) (u64_or_nat _ _ (zec s _) hp) hc (hs.frozen _) hh (zcp n hn)).mono ?_;rintro e w' ⟨he,m,hw⟩;subst hw;refine ⟨by rw[he];rfl,?_,?_⟩
   ·rw[zf7 s n hn]
    exact (hs.put (ins s n) (n / 64) _ (fun j hj=>zg1 s n j hj) (zgS s n)).drewN m
   ·exact (zc.setCell [b] w ⟨b,n / 64,none⟩ _ (by simp)).quiet (zc.drewN _ _ m)
  ·rw[hsn] at hh
   refine (zo6 b n w hn hh).mono ?_;rintro e w' ⟨he,m,hw⟩;subst hw;exact ⟨by rw[he];rfl,by rw[zlR s n hsn];exact hs.drewN m,zc.drewN _ _ m⟩
 ·have hd:decide (0≤a∧a<5000)=false:=by simpa using h
  rw[hd];refine (znm b a w h).mono ?_;rintro e w' ⟨he,hw⟩;subst hw;exact ⟨by rw[he];rfl,by rw[zkJ s a h];exact hs,zc.refl _ _⟩
theorem zmB(pv:Value)(a:Int)(w:World)
  (hh:Calls Tryz.prog 59 #[pv,int i64 a] w fun e w'=>e=.returned (.bool false)∧∃ m,w'=w.drewN m):
  Calls Tryz.prog 117 #[pv,int i64 a] w fun e w'=>e=.returned (.bool false)∧∃ m,w'=w.drewN m:=by
 have H:=hid hh;clear hh;go_enter Tryz.func117,Tryz.ntmps117;go_wp2_with fail;refine H.o.mono ?_;rintro e w' ⟨rfl,m,rfl⟩;go_wp2;go_ret;exact ⟨rfl,_,rfl⟩
theorem zj2(b n k p x z:Nat)(w:World)(hk:k<79)(hz:bits BinOp.andNot IntKind.u64 (x:Int) (p:Int)=(z:Int))(hc:w.cell? ⟨b,k,none⟩=some (.int .u64 x))(hfz:w.frozen? ⟨b,k,none⟩=false)
  (hh:Calls Tryz.prog 59 #[pointer (some ⟨b,0,none⟩),int i64 n] w fun e w'=>e=.returned (.bool true)∧∃ m,w'=w.drewN m)
  (hpl:∀ w1,Calls Tryz.prog 110 #[int i64 n] w1 fun e w'=>e=.returned (.tuple #[int i64 k,.int .u64 p])∧∃ m,w'=w1.drewN m):
  Calls Tryz.prog 117 #[pointer (some ⟨b,0,none⟩),int i64 n] w fun e w'=>e=.returned (.bool true)∧∃ m,w'=(w.setCell ⟨b,k,none⟩ (.int .u64 z)).drewN m:=by
 have H:=hid hh;have H2:=hid hpl;clear hh hpl;go_enter Tryz.func117,Tryz.ntmps117;go_wp2_with fail;refine H.o.mono ?_;rintro e w' ⟨rfl,m,rfl⟩;go_wp2_with fail;refine (H2.o _).mono ?_;rintro e w' ⟨rfl,m2,rfl⟩;go_wp2
 go_region
 go_wp2;go_ret;exact ⟨rfl,_,rfl⟩
theorem zmU(b:Nat)(s:Nat→Bool)(a:Int)(w:World)(hs:zV w b s)(hf:Fit s):
  Calls Tryz.prog 117 #[pointer (some ⟨b,0,none⟩),int i64 a] w fun e w'=>e=.returned (.bool (Q6 s a))∧zV w' b (zjF s a)∧zc [b] w w':=by
 have hh:=Jx b s a w hs hf;cases hsn:Q6 s a
 ·rw[hsn] at hh
  refine (zmB _ a w hh).mono ?_;rintro e w' ⟨he,m,hw⟩;subst hw;exact ⟨by rw[he],by rw[zjK s a hsn];exact hs.drewN m,zc.drewN _ _ m⟩
 ·rw[hsn] at hh
  have h0:0≤a:=by
   by_cases h0:0≤a
   ·exact h0
   ·simp[Q6,h0] at hsn
  obtain ⟨n,rfl⟩:=Int.eq_ofNat_of_zero_le h0;have hsn':s n=true:=by simpa [Q6] using hsn
  have hn:n<5000:=by
   apply Nat.lt_of_not_le;intro hle;rw[hf n hle] at hsn';cases hsn'
  have hp:2 ^ (n % 64)<18446744073709551616:=QR (Nat.mod_lt _ (by decide));have hc:=hs.cell (k:=n / 64) (by omega);refine (zj2 b n (n / 64) (2 ^ (n % 64)) (wd s (n / 64)) (wd s (n / 64) &&& (18446744073709551615 - 2 ^ (n % 64))) w (by omega) (u64_andNot_nat _ _ (zec s _) hp) hc (hs.frozen _) hh (zcp n hn)).mono ?_;rintro e w' ⟨he,m,hw⟩;subst hw;refine ⟨by rw[he],?_,?_⟩
  ·rw[zkQ s n]
   exact (hs.put (del s n) (n / 64) _ (fun j hj=>zfC s n j hj) (zgQ s n)).drewN m
  ·exact (zc.setCell [b] w ⟨b,n / 64,none⟩ _ (by simp)).quiet (zc.drewN _ _ m)
structure zfX (P:Pr8):Prop where
 fn:P.funcs.length≤12
 bk:∀ f,f<P.funcs.length→(zg P f).blocks.length≤12
 code:∀ {f b},f<P.funcs.length→b<(zg P f).blocks.length→(zr (zg P f) b).code.length≤30
theorem zfX.cnt1{P:Pr8}(h:zfX P){f:Nat}(hf:f<P.funcs.length):∀ b,b≤(zg P f).blocks.length→Go.Proofs.YtkgoimokgbdgfaaGreatDoor.zfF (zg P f) b≤31 * b
 | 0,_=>Nat.zero_le _
 | b+1,hb=>by
  have h1:=h.cnt1 hf b (by omega);have h2:=h.code hf (show b<_ by omega);rw[Qa];omega
theorem zfX.cntP{P:Pr8}(h:zfX P):∀ k,k≤P.funcs.length→Go.Proofs.YtkgoimokgbdgfaaGreatDoor.zgK P k≤372 * k
 | 0,_=>Nat.zero_le _
 | k+1,hk=>by
  have h1:=h.cntP k (by omega);have h2:=h.cnt1 (f:=k) (by omega) _ (Nat.le_refl _);have h3:=h.bk k (by omega);rw[JH];omega
theorem zfX.cntF(h:zfX P)(hf:f<P.funcs.length)(hb:b≤(zg P f).blocks.length):Go.Proofs.YtkgoimokgbdgfaaGreatDoor.zgK P f+Go.Proofs.YtkgoimokgbdgfaaGreatDoor.zfF (zg P f) b≤4500:=by
 have h1:=h.cntP f (by omega);have h2:=h.cnt1 hf b hb;have h3:=h.bk f hf;have h4:=h.fn;omega
theorem zfX.pts(h:zfX P):(Go.Proofs.YtkgoimokgbdgfaaGreatDoor.pts P).length≤4500:=by
 have h1:=h.cntP _ (Nat.le_refl _);have h4:=h.fn;rw[zev];omega
theorem zay{pb po:Nat}(h:PrC w pb po P)(hs:zfX P):Calls Tryz.prog 52 #[pointer (some ⟨pb,po,none⟩)] w fun e w'=>∃ a cp,e=.returned (.slice a (pts P).length cp)∧zy w' 3 PtC a (pts P)∧zc [] w w':=by
 have HP:=hid h;have HS:=hid hs;obtain ⟨fa,fcp,H⟩:=h.fns;have h4:=H.cell;have hN:=hs.fn;obtain ⟨N,hNN⟩:∃ N,N=P.funcs.length:=⟨_,rfl⟩;have HN:=hid hNN;rw[← hNN] at h4 hN
 have H4:Box (∀ w',zc [] w w'→w'.cell? ⟨pb,po+4,none⟩=some (.slice fa N fcp)):=hid (by
  have h4':=h4;intro w' k
  exact za k h4')
 have HF:=hid H;have HR0:Box (w.ownsRow w.heap.size 55 3 (.slice none 0 0) (ptP P 0).length (Qf (ptP P 0))):=hid (World.ownsRow_nil _ _ _ _);clear h hs H hNN;go_enter Tryz.func52,Tryz.ntmps52;go_wp2_with fail
 go_loopw [3,14] (fun lv fv wr=>∃ k:Nat,k≤N∧fv=int i64 (k:Int)∧Box (wr.ownsRow w.heap.size 55 3 lv (ptP P k).length (Qf (ptP P k)))∧Box (zc [] w wr)) (fun _ fv _=>N - (intOf fv).toNat)
 case atStart=>exact ⟨0,by omega,rfl,HR0,hid (zc.refl _ _)⟩
 case round=>
  obtain ⟨k,hk,rfl,HR,HK⟩:=hrel;clear HR0;by_cases hlt:k<N
  ·have hlt':(k:Int)<(N:Int):=by omega
   have g4:=H4.o _ HK.o;obtain ⟨fb,fo,ba,bcp,rfl,B⟩:=HF.o.at (f:=k) (by rw[← HN.o];exact hlt);have g2:=za HK.o B.cell;have hM:=HS.o.bk k (by rw[← HN.o];exact hlt);obtain ⟨M,hMM⟩:∃ M,M=(zg P k).blocks.length:=⟨_,rfl⟩;have HM:=hid hMM;rw[← hMM] at g2 hM
   have G2:Box (∀ w',zc [] w w'→w'.cell? ⟨fb,fo+k * 3+2,none⟩=some (.slice ba M bcp)):=hid (by
    have h2':=B.cell;rw[← hMM] at h2';intro w' kk
    exact za kk h2')
   have hsz:Box (∀ b,b<M→∃ bb bo c,ba=some ⟨bb,bo,none⟩∧c≤30∧Box (c=(zr (zg P k) b).code.length)∧∀ w',zc [] w w'→Calls Tryz.prog 102 #[pointer (some ⟨bb,bo+b * 5,none⟩)] w' fun e w2=>e=.returned (int i64 ((c+1:Nat):Int))∧w2=w'):=hid fun b hb=>by
    obtain ⟨bb,bo,e,L⟩:=B.at (b:=b) (by rw[← HM.o];exact hb);obtain ⟨ca,ccp,hc,_⟩:=L.c0;have h9:=HS.o.code (f:=k) (b:=b) (by rw[← HN.o];exact hlt) (by rw[← HM.o];exact hb);exact ⟨bb,bo,_,e,h9,hid rfl,fun w' kk=>zkE bb (bo+b * 5) _ ccp ca w' (za kk hc) (by omega)⟩
   have HR1:Box (wr.ownsRow w.heap.size 55 3 u3 (ptP P k ++ ptF (zg P k) k 0).length (Qf (ptP P k ++ ptF (zg P k) k 0))):=hid (by rw[zcR,List.append_nil];exact HR.o);have hcap:Box (∀ b,b<M→zgK P k+zfF (zg P k) (b+1)≤4500):=hid fun b hb=>HS.o.cntF (f:=k) (by rw[← HN.o];exact hlt) (by rw[← HM.o];omega);clear B hMM HR;go_wp2_with fail;have HK0:=HK;clear HK
   go_loopw [3,26] (fun lv bv wr=>∃ b:Nat,b≤M∧bv=int i64 (b:Int)∧Box (wr.ownsRow w.heap.size 55 3 lv (ptP P k ++ ptF (zg P k) k b).length (Qf (ptP P k ++ ptF (zg P k) k b)))∧Box (zc [] w wr)) (fun _ bv _=>M - (intOf bv).toNat)
   case atStart=>exact ⟨0,by omega,rfl,HR1,HK0⟩
   case round=>
    obtain ⟨b,hb,rfl,HR,HK⟩:=hrel;clear HR1 HK0 g2 g4;by_cases hlb:b<M
    ·have hlb':(b:Int)<(M:Int):=by omega
     have g4:=H4.o _ HK.o;have g2:=G2.o _ HK.o;obtain ⟨bb,bo,c,rfl,hc9,HCC,hcl⟩:=hsz.o b hlb;have HCL:=hid hcl;have hcall:=hid (hcl _ HK.o);have hcp:=hcap.o b hlb;rw[Qa, ← HCC.o] at hcp;have HR2:Box (wr.ownsRow w.heap.size 55 3 u3 (ptP P k ++ ptF (zg P k) k b ++ ptB k b 0).length (Qf (ptP P k ++ ptF (zg P k) k b ++ ptB k b 0))):=hid (by rw[J9,List.append_nil];exact HR.o);have HL:Box (∀ i,(ptP P k ++ ptF (zg P k) k b ++ ptB k b i).length=zgK P k+zfF (zg P k) b+i):=hid fun i=>by
      rw[List.length_append,List.length_append,zbo,zeh];rfl
     clear hcl HR;have hc1:(c:Int)+1≤4500:=by omega
     go_wp2_with (go_at_call 102;refine hcall.o.mono ?_;rintro e w' ⟨rfl,hw⟩;rw[hw];clear hw);have HK2:=HK;clear HK hcall
     go_loopw [3,40] (fun lv iv wr=>∃ i:Nat,i≤c+1∧iv=int i64 (i:Int)∧Box (wr.ownsRow w.heap.size 55 3 lv (ptP P k ++ ptF (zg P k) k b ++ ptB k b i).length (Qf (ptP P k ++ ptF (zg P k) k b ++ ptB k b i)))∧Box (zc [] w wr)) (fun _ iv _=>c+1 - (intOf iv).toNat)
     case atStart=>exact ⟨0,by omega,rfl,HR2,HK2⟩
     case round=>
      obtain ⟨i,hi,rfl,HR,HK⟩:=hrel;clear HR2 HK2 g2 g4;by_cases hli:i<c+1
      ·have hli':(i:Int)<(c:Int)+1:=by omega
       have hn:Box ((ptP P k ++ ptF (zg P k) k b ++ ptB k b (i+1)).length=(ptP P k ++ ptF (zg P k) k b ++ ptB k b i).length+1∧Qf (ptP P k ++ ptF (zg P k) k b ++ ptB k b (i+1))=Qf (ptP P k ++ ptF (zg P k) k b ++ ptB k b i) ++ [int i64 (k:Int),int i64 (b:Int),int i64 (i:Int)]):=hid (by
        rw[HL.o,HL.o,Zm, ← List.append_assoc,zby]
        exact ⟨by omega,rfl⟩)
       have hle:=HL.o i;have hks:=HK.o.size;generalize (ptP P k ++ ptF (zg P k) k b ++ ptB k b i).length=nn at HR hn hle;generalize Qf (ptP P k ++ ptF (zg P k) k b ++ ptB k b i)=xs at HR hn;go_wp2_with (at_builtin;go_must (refine wpList_append_own _ rfl _ _ 101 rfl w.heap.size 55 Tryz.t55 (agg #[int i64 0,int i64 0,int i64 0]) 3 24 Q9 zbn zcE QJ zaC rfl (by decide) _ nn xs rfl (HR.o.alloc _) ⟨wr.heap.size,0,none⟩ 1 1 [int i64 (k:Int),int i64 (b:Int),int i64 (i:Int)] rfl rfl (World.news_of_block (cs:=#[int i64 (k:Int),int i64 (b:Int),int i64 (i:Int)]) (t:=55) (fr:=(0,0)) (heap_alloc_new wr _)) (JP _ _ _) (by unfold maxLen;omega) (by omega) (by simp;omega) ?_;intro v' w3 hown3 hgrow3 hnil3));have hk3:zc [] w w3:=(HK.o.quiet (zc.alloc [] wr _)).appended HR.o hgrow3 (Nat.le_refl _);have HO3:=hid hown3;have HK3:=hid hk3;clear hgrow3 hnil3 hown3 hk3 HR HK;go_wp2_with fail;go_roundw
       case rel=>exact ⟨i+1,by omega,by go_num,hid (by rw[hn.o.1,hn.o.2];exact HO3.o),HK3⟩
       case measure=>simp[intOf];omega
      ·obtain rfl:i=c+1:=by omega
       have HR3:Box (wr.ownsRow w.heap.size 55 3 u3 (ptP P k ++ ptF (zg P k) k (b+1)).length (Qf (ptP P k ++ ptF (zg P k) k (b+1)))):=hid (by
        rw[jw, ← HCC.o, ← List.append_assoc]
        exact HR.o)
       clear HR;go_wp2_with fail;go_roundw
       case rel=>exact ⟨b+1,by omega,by go_num,HR3,HK⟩
       case measure=>simp[intOf];omega
    ·obtain rfl:b=M:=by omega
     have HR3:Box (wr.ownsRow w.heap.size 55 3 u3 (ptP P (k+1)).length (Qf (ptP P (k+1)))):=hid (by
      rw[Qi, ← HM.o]
      exact HR.o)
     clear HR;go_wp2_with fail;go_roundw
     case rel=>exact ⟨k+1,by omega,by go_num,HR3,HK⟩
     case measure=>simp[intOf];omega
  ·obtain rfl:k=N:=by omega
   go_wp2_with fail;go_ret;obtain ⟨a,cp,e1,e2,e3,_⟩:=zcI HR.o;have e5:ptP P k=pts P:=by unfold pts;rw[HN.o]
   rw[e5] at e1 e3;exact ⟨a,cp,congrArg Ending.returned e1,e3,HK.o⟩
section
variable {P:Program}{ops:Array Oper}{A:Act}{W0:World}
theorem zj.cons{o:Oper}{v:Value}{os:List Oper}{vs:List Value}(h:zn0 P ops A W0 o v)(t:zj P ops A W0 os vs):zj P ops A W0 (o :: os) (v :: vs):=⟨h,t⟩
theorem zj.nil:zj P ops A W0 [] []:=trivial
theorem gY{o:Oper}{v:Value}{os:List Oper}{vs:List Value}(h:∀ w,zc [] W0 w→(execOp A.eval o).run P w=.ok (.value v) w)(t:zj P ops A W0 os vs)(hw:Region.wanted o (yielded ops A.tmps)=true:=by rfl):zj P ops A W0 (o :: os) (v :: vs):=⟨zca hw h,t⟩
theorem gR{o:Oper}{v:Value}{os:List Oper}{vs:List Value}(t:zj P ops A W0 os vs)(h:∀ w,zc [] W0 w→(execOp A.eval o).run P w=.ok (.value v) w:=by exact fun _ _=>rfl)(hw:Region.wanted o (yielded ops A.tmps)=true:=by rfl):zj P ops A W0 (o :: os) (v :: vs):=⟨zca hw h,t⟩
theorem gP{o:Oper}{os:List Oper}{vs:List Value}(t:zj P ops A W0 os vs)(hw:Region.wanted o (yielded ops A.tmps)=false:=by rfl):zj P ops A W0 (o :: os) (undef :: vs):=⟨zhL hw,t⟩
theorem zav{ev:Operand→Value}{oi:Oper}{f:Nat}{x y z:Operand}{ts:Array TypeId}{v u t:Value}{w:World}(ho:oi.op=.call { callee:=.value (.func f),args:=#[x,y,z],argTypes:=ts })(hf:ev (.func f)=.func (.func f) #[] #[])(hx:ev x=v)(hy:ev y=u)(hz:ev z=t)(hc:(callFunc f #[v,u,t]).run P w=.ok (.enter f #[v,u,t]) w):(execOp ev oi).run P w=.ok (.enter f #[v,u,t]) w:=by
 subst hx hy hz;simp[execOp,ho,hf,go_sem,hc]
theorem zas{ev:Operand→Value}{oi:Oper}{f:Nat}{x y z p:Operand}{ts:Array TypeId}{v u t s:Value}{w:World}(ho:oi.op=.call { callee:=.value (.func f),args:=#[x,y,z,p],argTypes:=ts })(hf:ev (.func f)=.func (.func f) #[] #[])(hx:ev x=v)(hy:ev y=u)(hz:ev z=t)(hp:ev p=s)(hc:(callFunc f #[v,u,t,s]).run P w=.ok (.enter f #[v,u,t,s]) w):(execOp ev oi).run P w=.ok (.enter f #[v,u,t,s]) w:=by
 subst hx hy hz hp;simp[execOp,ho,hf,go_sem,hc]
end
theorem zF(v u:Value)(w:World):(callFunc 129 #[v,u]).run Tryz.prog w=.ok (.enter 129 #[v,u]) w:=by go_simp
theorem zcS(v u:Value)(w:World):(callFunc 72 #[v,u]).run Tryz.prog w=.ok (.enter 72 #[v,u]) w:=by go_simp
theorem zfG(v u t:Value)(w:World):(callFunc 71 #[v,u,t]).run Tryz.prog w=.ok (.enter 71 #[v,u,t]) w:=by go_simp
theorem zac(v u t s:Value)(w:World):(callFunc 130 #[v,u,t,s]).run Tryz.prog w=.ok (.enter 130 #[v,u,t,s]) w:=by go_simp
theorem qj(hc:w.cell? ad=some v)(ho:oi.op=.load 3 y)(hy:ev y=.pointer (some ad)):(execOp ev oi).run Tryz.prog w=.ok (.value v) w:=by simp[execOp,ho,hy,go_sem,hc]
theorem zli(hc:w.cell? ad=some v)(ho:oi.op=.load 25 y)(hy:ev y=.pointer (some ad)):(execOp ev oi).run Tryz.prog w=.ok (.value v) w:=by simp[execOp,ho,hy,go_sem,hc]
theorem zje(hc:w.cell? ad=some v)(ho:oi.op=.load 26 y)(hy:ev y=.pointer (some ad)):(execOp ev oi).run Tryz.prog w=.ok (.value v) w:=by simp[execOp,ho,hy,go_sem,hc]
theorem zdZ(hc:w.cell? ad=some v)(ho:oi.op=.load 27 y)(hy:ev y=.pointer (some ad)):(execOp ev oi).run Tryz.prog w=.ok (.value v) w:=by simp[execOp,ho,hy,go_sem,hc]
theorem zn9(hc:w.cell? ad=some v)(ho:oi.op=.load 28 y)(hy:ev y=.pointer (some ad)):(execOp ev oi).run Tryz.prog w=.ok (.value v) w:=by simp[execOp,ho,hy,go_sem,hc]
theorem zi6(hc:w.cell? ad=some v)(ho:oi.op=.load 30 y)(hy:ev y=.pointer (some ad)):(execOp ev oi).run Tryz.prog w=.ok (.value v) w:=by simp[execOp,ho,hy,go_sem,hc]
theorem zng(hc:w.cell? ad=some v)(ho:oi.op=.load 37 y)(hy:ev y=.pointer (some ad)):(execOp ev oi).run Tryz.prog w=.ok (.value v) w:=by simp[execOp,ho,hy,go_sem,hc]
theorem zoq(h0:w.cell? ⟨b,o+0,none⟩=some v0)(h1:w.cell? ⟨b,o+1,none⟩=some v1)(ho:oi.op=.load 34 y)(hy:ev y=pointer (some ⟨b,o,none⟩)):(execOp ev oi).run Tryz.prog w=.ok (.value (agg #[v0,v1])) w:=by
 rw[Nat.add_zero] at h0;simp[execOp,ho,hy,go_sem,h0,h1]
theorem jm(h0:w.cell? ⟨b,o+0,none⟩=some v0)(h1:w.cell? ⟨b,o+1,none⟩=some v1)(h2:w.cell? ⟨b,o+2,none⟩=some v2)(ho:oi.op=.load 45 y)(hy:ev y=pointer (some ⟨b,o,none⟩)):(execOp ev oi).run Tryz.prog w=.ok (.value (agg #[v0,v1,v2])) w:=by
 rw[Nat.add_zero] at h0;simp[execOp,ho,hy,go_sem,h0,h1,h2]
theorem zlC(h0:w.cell? ⟨b,o+0,none⟩=some v0)(h1:w.cell? ⟨b,o+1,none⟩=some v1)(h2:w.cell? ⟨b,o+2,none⟩=some v2)(ho:oi.op=.load 36 y)(hy:ev y=pointer (some ⟨b,o,none⟩)):(execOp ev oi).run Tryz.prog w=.ok (.value (agg #[v0,v1,v2])) w:=by
 rw[Nat.add_zero] at h0;simp[execOp,ho,hy,go_sem,h0,h1,h2]
theorem zhc{v3 v4 v5:Value}(h0:w.cell? ⟨b,o+0,none⟩=some v0)(h1:w.cell? ⟨b,o+1,none⟩=some v1)(h2:w.cell? ⟨b,o+2,none⟩=some v2)(h3:w.cell? ⟨b,o+3,none⟩=some v3)(h4:w.cell? ⟨b,o+4,none⟩=some v4)(h5:w.cell? ⟨b,o+5,none⟩=some v5)(ho:oi.op=.load 39 y)(hy:ev y=pointer (some ⟨b,o,none⟩)):(execOp ev oi).run Tryz.prog w=.ok (.value (agg #[v0,v1,v2,v3,v4,v5])) w:=by
 rw[Nat.add_zero] at h0;simp[execOp,ho,hy,go_sem,h0,h1,h2,h3,h4,h5]
theorem qL{a b:Int}{r:Bool}(ho:oi.op=.binOp .eql 3 x y 3)(hx:ev x=int i64 a)(hy:ev y=int i64 b)(hr:(a == b)=r):(execOp ev oi).run Tryz.prog w=.ok (.value (.bool r)) w:=by
 simp[execOp,ho,hx,hy,go_sem,hr]
theorem znq{a:Int}{r:Bool}(ho:oi.op=.binOp .geq 3 x y 3)(hx:ev x=int i64 a)(hy:ev y=int i64 0)(hr:decide (0≤a)=r):(execOp ev oi).run Tryz.prog w=.ok (.value (.bool r)) w:=by
 simp[execOp,ho,hx,hy,go_sem,hr]
theorem zle(ho:oi.op=.indexAddr 30 x y)(hx:ev x=.slice (some ⟨b,o,none⟩) n c)(hy:ev y=int i64 (j:Int))(hj:(j:Int)<(n:Int)):(execOp ev oi).run Tryz.prog w=.ok (.value (pointer (some ⟨b,o+j * 3,none⟩))) w:=by
 simp[execOp,ho,hx,hy,go_sem];intro h';omega
theorem zeJ(ho:oi.op=.indexAddr 27 x y)(hx:ev x=.slice (some ⟨b,o,none⟩) n c)(hy:ev y=int i64 (j:Int))(hj:(j:Int)<(n:Int)):(execOp ev oi).run Tryz.prog w=.ok (.value (pointer (some ⟨b,o+j * 3,none⟩))) w:=by
 simp[execOp,ho,hx,hy,go_sem];intro h';omega
theorem zhh(ho:oi.op=.indexAddr 26 x y)(hx:ev x=.slice (some ⟨b,o,none⟩) n c)(hy:ev y=int i64 (j:Int))(hj:(j:Int)<(n:Int)):(execOp ev oi).run Tryz.prog w=.ok (.value (pointer (some ⟨b,o+j,none⟩))) w:=by
 simp[execOp,ho,hx,hy,go_sem];intro h';omega
theorem zlk(ho:oi.op=.indexAddr 25 x y)(hx:ev x=.slice (some ⟨b,o,none⟩) n c)(hy:ev y=int i64 (j:Int))(hj:(j:Int)<(n:Int)):(execOp ev oi).run Tryz.prog w=.ok (.value (pointer (some ⟨b,o+j * 2,none⟩))) w:=by
 simp[execOp,ho,hx,hy,go_sem];intro h';omega
theorem znN(ho:oi.op=.indexAddr 28 x y)(hx:ev x=.slice (some ⟨b,o,none⟩) n c)(hy:ev y=int i64 (j:Int))(hj:(j:Int)<(n:Int)):(execOp ev oi).run Tryz.prog w=.ok (.value (pointer (some ⟨b,o+j,none⟩))) w:=by
 simp[execOp,ho,hx,hy,go_sem];intro h';omega
theorem zni(ho:oi.op=.indexAddr 37 x y)(hx:ev x=.slice (some ⟨b,o,none⟩) n c)(hy:ev y=int i64 (j:Int))(hj:(j:Int)<(n:Int)):(execOp ev oi).run Tryz.prog w=.ok (.value (pointer (some ⟨b,o+j,none⟩))) w:=by
 simp[execOp,ho,hx,hy,go_sem];intro h';omega
def Zb(l:List Nat):List Int:=l.map fun n:Nat=>(n:Int)
def zbe(L:List (List Nat)):List (List Int):=L.map Zb
theorem qu(l:List Nat):(Zb l).length=l.length:=by unfold Zb;rw[List.length_map]
theorem Zr(L:List (List Nat)):(zbe L).length=L.length:=by unfold zbe;rw[List.length_map]
theorem j9(L:List (List Nat))(j:Nat):(zbe L).getD j []=Zb (nb L j):=by
 unfold zbe nb;rw[List.getD_eq_getElem?_getD,List.getD_eq_getElem?_getD,List.getElem?_map];cases L[j]? <;> rfl
theorem zbq(l:List Nat)(j:Nat):(Zb l).getD j 0=((l.getD j 0:Nat):Int):=by
 unfold Zb;rw[List.getD_eq_getElem?_getD,List.getD_eq_getElem?_getD,List.getElem?_map];cases l[j]? <;> rfl
def GAt(w:World)(B:Nat)(a:Option Addr)(g:List (List Nat)):Prop:=zg5 w B a (zbe g)
theorem GAt.kept{g:List (List Nat)}(h:GAt w B a g)(k:zc L w w')(hL:∀ x,x∈L→B≤x):GAt w' B a g:=zg5.kept h k hL
theorem GAt.quiet{g:List (List Nat)}(h:GAt w B a g)(k:zc [] w w'):GAt w' B a g:=zg5.quiet h k
def NAt(w:World)(B:Nat)(a:Option Addr)(l:List Nat):Prop:=zcu w B a (Zb l)
theorem NAt.kept{l:List Nat}(h:NAt w B a l)(k:zc L w w')(hL:∀ x,x∈L→B≤x):NAt w' B a l:=zcu.kept h k hL
theorem GAt.at{g:List (List Nat)}(h:GAt w B a g)(hk:k<g.length):∃ b off ai ci,a=some ⟨b,off,none⟩∧w.cell? ⟨b,off+k,none⟩=some (.slice ai (nb g k).length ci)∧NAt w B ai (nb g k):=by
 obtain ⟨b,off,ai,ci,h1,h2,h3⟩:=zg5.at h (k:=k) (by rw[Zr];exact hk);rw[j9,qu] at h2;rw[j9] at h3;exact ⟨b,off,ai,ci,h1,h2,h3⟩
theorem NAt.at{l:List Nat}(h:NAt w B a l)(hk:k<l.length):∃ b off,a=some ⟨b,off,none⟩∧w.cell? ⟨b,off+k,none⟩=some (int i64 ((l.getD k 0:Nat):Int)):=by
 obtain ⟨b,off,h1,h2⟩:=zcu.at h (k:=k) (by rw[qu];exact hk);rw[zbq] at h2;exact ⟨b,off,h1,h2⟩
theorem qC{α:Type}(l:List α)(k:Nat)(d:α)(h:k<l.length):l.take (k+1)=l.take k ++ [l.getD k d]:=by
 rw[List.take_succ_eq_append_getElem h,List.getD_eq_getElem?_getD,List.getElem?_eq_getElem h];rfl
theorem qD{α:Type}(l:List α)(k:Nat)(d:α)(h:k<l.length):l.getD k d∈l:=by
 rw[List.getD_eq_getElem?_getD,List.getElem?_eq_getElem h];exact List.getElem_mem h
theorem zfd(g:List (List Nat)):∀ (f n:Nat) (st:(Nat→Bool) × List Nat) (m:Nat),st.1 m=true→(vis g f n st).1 m=true
 | 0,_,_,_,h=>h
 | f+1,n,st,m,h=>by
  cases hs:st.1 n with
  | true=>rw[zcZ g (f+1) n st hs];exact h
  | false=>
   rw[zbz g f n st hs];have go:∀ (ns:List Nat) (t:(Nat→Bool) × List Nat),t.1 m=true→(zbb g f ns t).1 m=true:=by
    intro ns
    induction ns with
    | nil=>intro t ht;exact ht
    | cons a ns ih=>intro t ht;rw[Zv];exact ih _ (zfd g f a t m ht)
   exact go _ _ (by show (st.1 m || (m == n))=true;rw[h];rfl)
theorem zdP(g:List (List Nat))(f:Nat):∀ (ns:List Nat) (st:(Nat→Bool) × List Nat) (m:Nat),st.1 m=true→(zbb g f ns st).1 m=true
 | [],_,_,h=>h
 | a :: ns,st,m,h=>by rw[Zv];exact zdP g f ns _ m (zfd g f a st m h)
theorem zaP(g:List (List Nat))(hg:Ok g):∀ (f n:Nat) (st:(Nat→Bool) × List Nat) (m:Nat),n<g.length→(vis g f n st).1 m=true→st.1 m=true∨m<g.length
 | 0,_,_,_,_,h=>.inl h
 | f+1,n,st,m,hn,h=>by
  cases hs:st.1 n with
  | true=>rw[zcZ g (f+1) n st hs] at h;exact .inl h
  | false=>
   rw[zbz g f n st hs] at h;have go:∀ (ns:List Nat) (t:(Nat→Bool) × List Nat),(∀ a,a∈ns→a<g.length)→(zbb g f ns t).1 m=true→t.1 m=true∨m<g.length:=by
    intro ns
    induction ns with
    | nil=>intro t _ ht;exact .inl ht
    | cons a ns ih=>
     intro t hns ht;rw[Zv] at ht;rcases ih _ (fun x hx=>hns x (by simp[hx])) ht with h1 | h1
     ·exact zaP g hg f a t m (hns a (by simp)) h1
     ·exact .inr h1
   rcases go _ _ (fun a ha=>hg n a ha) h with h1 | h1
   ·have h2:(st.1 m || (m == n))=true:=h1
    rw[Bool.or_eq_true,beq_iff_eq] at h2;rcases h2 with h2 | h2
    ·exact .inl h2
    ·exact .inr (h2 ▸ hn)
   ·exact .inr h1
theorem zdn(g:List (List Nat))(hg:Ok g)(f:Nat):∀ (ns:List Nat) (st:(Nat→Bool) × List Nat) (m:Nat),(∀ a,a∈ns→a<g.length)→(zbb g f ns st).1 m=true→st.1 m=true∨m<g.length
 | [],_,_,_,h=>.inl h
 | a :: ns,st,m,hns,h=>by
  rw[Zv] at h;rcases zdn g hg f ns _ m (fun x hx=>hns x (by simp[hx])) h with h1 | h1
  ·exact zaP g hg f a st m (hns a (by simp)) h1
  ·exact .inr h1
theorem zhU(g:List (List Nat))(hg:Ok g):∀ (f n:Nat) (st:(Nat→Bool) × List Nat),n<g.length→(vis g f n st).2.length+un g (vis g f n st).1≤st.2.length+un g st.1
 | 0,_,_,_=>Nat.le_refl _
 | f+1,n,st,hn=>by
  cases hs:st.1 n with
  | true=>rw[zcZ g (f+1) n st hs];exact Nat.le_refl _
  | false=>
   rw[zbz g f n st hs];have hu:=zfm g st.1 n hs hn;have go:∀ (ns:List Nat) (t:(Nat→Bool) × List Nat),(∀ a,a∈ns→a<g.length)→(zbb g f ns t).2.length+un g (zbb g f ns t).1≤t.2.length+un g t.1:=by
    intro ns
    induction ns with
    | nil=>intro t _;exact Nat.le_refl _
    | cons a ns ih=>
     intro t hns;rw[Zv];exact Nat.le_trans (ih _ (fun x hx=>hns x (by simp[hx]))) (zhU g hg f a t (hns a (by simp)))
   have:=go (nb g n) (ins st.1 n,st.2) (fun a ha=>hg n a ha);generalize zbb g f (nb g n) (ins st.1 n,st.2)=A at this ⊢;have e:A.2.length+un g A.1≤st.2.length+un g (ins st.1 n):=this;show (A.2 ++ [n]).length+un g A.1≤_;rw[List.length_append];have e1:[n].length=1:=rfl;omega
theorem zc0(g:List (List Nat))(hg:Ok g)(f:Nat):∀ (ns:List Nat) (st:(Nat→Bool) × List Nat),(∀ a,a∈ns→a<g.length)→(zbb g f ns st).2.length+un g (zbb g f ns st).1≤st.2.length+un g st.1
 | [],_,_=>Nat.le_refl _
 | a :: ns,st,hns=>by
  rw[Zv];exact Nat.le_trans (zc0 g hg f ns _ (fun x hx=>hns x (by simp[hx]))) (zhU g hg f a st (hns a (by simp)))
structure jC (w:World) (b:Nat) (x y:Value):Prop where
 heap:w.heap[b]? = some (.cells #[x,y] 107 (0,0))
theorem jC.c0{x y:Value}(h:jC w b x y):w.cell? ⟨b,0,none⟩=some x:=by rw[cell_of_row w b 0 _ _ _ h.heap];rfl
theorem jC.c1{x y:Value}(h:jC w b x y):w.cell? ⟨b,1,none⟩=some y:=by rw[cell_of_row w b 1 _ _ _ h.heap];rfl
theorem jC.frozen{x y:Value}(h:jC w b x y)(k:Nat):w.frozen? ⟨b,k,none⟩=false:=frozen_of_row w b k _ _ h.heap
theorem jC.lt{x y:Value}(h:jC w b x y):b<w.heap.size:=(Array.getElem?_eq_some_iff.1 h.heap).1
theorem jC.kept{x y:Value}(h:jC w b x y)(k:zc L w w')(hb:b ∉ L):jC w' b x y:=⟨by rw[k.block b h.lt hb];exact h.heap⟩
theorem jC.new(w:World)(x y:Value):jC (w.alloc (.cells #[x,y] 107)) w.heap.size x y:=⟨heap_alloc_new w _⟩
structure Sm (g:List (List Nat)):Prop where
 ok:Ok g
 len:g.length≤600
 short:∀ j,(nb g j).length≤1000
theorem Sm.inner{g:List (List Nat)}(h:Sm g)(j:Nat):(nb g j).length≤1000000:=Nat.le_trans (h.short j) (by decide)
theorem Sm.may{g:List (List Nat)}(h:Sm g):zpj (g.length:Int) (zbe g):=by
 refine ⟨by omega,by have:=h.len;omega,by rw[Zr],fun j _ i hi=> ?_⟩;rw[j9] at hi ⊢;rw[qu] at hi;rw[zbq];have:=h.ok j _ (qD (nb g j) i 0 hi);omega
theorem zcO(g:List (List Nat))(hs:Sm g)(a:Option Addr)(cap B:Nat)(w:World)(hG:GAt w B a g):
  Calls Tryz.prog 57 #[agg #[int i64 (g.length:Int),.slice a g.length cap]] w fun e w'=>e=.returned (.bool true)∧zc [] w w':=by
 refine (zkN (g.length:Int) a g.length cap B (zbe g) w hG (Zr g) (by omega) (by have:=hs.len;omega) rfl (fun j=>by rw[j9,qu];exact hs.inner j)).mono ?_;rintro e w' ⟨h | h,hk⟩
 ·exact ⟨h.1,hk⟩
 ·exact absurd hs.may h.2
theorem zmH(w:World)(base:Nat):w.ownsRow base 3 1 (.slice none 0 0) ([]:List Nat).length (QK []):=World.ownsRow_nil w _ _ _
def zY:Nat→Bool:=fun _=>false
theorem zjG:row zY=Array.replicate 79 (.int .u64 0):=by
 apply Array.ext_getElem?;intro i;by_cases hi:i<79
 ·rw[zc7 zY i hi]
  have:wd zY i=0:=ze6 i;rw[this];simp[hi]
 ·rw[Array.getElem?_eq_none (by rw[JQ];omega),Array.getElem?_eq_none (by simp;omega)]
theorem zd6(w:World):(zeroValue 164).run Tryz.prog w=.ok (.agg (Array.replicate 79 (.int .u64 0))) w:=by kernel_rfl
theorem zf8(w:World):(zeroValue 164).run Tryz.prog w=.ok (.agg (row zY)) w:=by rw[zjG];exact zd6 w
theorem zdg(w:World)(s:Nat→Bool):zV (w.alloc (.cells (row s) 164)) w.heap.size s:=⟨heap_alloc_new w _⟩
theorem JO:Fit zY:=fun _ _=>rfl
theorem zfg(a:Option Addr)(cap:Nat)(w:World):
  Calls Tryz.prog 153 #[.slice a 0 cap] w fun e w'=>e=.returned (pointer (some ⟨w.heap.size,0,none⟩))∧zV w' w.heap.size zY∧zc [] w w':=by
 have hzero:=zf8;have hnew:=hid (zdg w zY);have hkn:zc [] w (w.alloc (Obj.cells (row zY) 164)):=zc.alloc _ _ _;go_enter Tryz.func153,Tryz.ntmps153;go_wp2_with fail;generalize w.alloc (Obj.cells (row zY) 164)=w1 at hnew hkn ⊢;generalize row zY=R
 go_loop [10] (fun i=>i=int i64 0) (fun _=>0)
 case atStart=>rfl
 case round=>
  subst hrel;go_wp2;go_ret;exact ⟨rfl,hnew.o,hkn⟩
def inB(k:Int)(n:Nat):Bool:=decide (0≤k) && decide (k<(n:Int))
theorem zeD{k:Int}(h1:0≤k)(h2:k<(n:Int)):inB k n=true:=by unfold inB;simp[h1,h2]
theorem zeS{k:Int}(h:¬ (0≤k∧k<(n:Int))):inB k n=false:=by
 unfold inB;by_cases h1:0≤k
 ·have h2:¬ k<(n:Int):=fun h2=>h ⟨h1,h2⟩
  simp[h2]
 ·simp[h1]
theorem zq{k:Int}:inB k n=true ↔ 0≤k∧k<(n:Int):=by unfold inB;simp
def ji{α:Type}(l:List α)(m:Nat)(g:α→Bool):Bool:=decide (l.length≤m) && l.all g
theorem qz{α:Type}{l:List α}{g:α→Bool}(h:m<l.length):ji l m g=false:=by
 unfold ji;have:¬ l.length≤m:=by omega
 simp[this]
theorem qM{α:Type}{l:List α}{g:α→Bool}{y:α}(hy:l[k]? = some y)(hg:g y=false):ji l m g=false:=by
 unfold ji;have h1:l.all g=false:=by
  rw[List.all_eq_false];exact ⟨y,List.mem_of_getElem? hy,by simp[hg]⟩
 rw[h1,Bool.and_false]
theorem qB{α:Type}{l:List α}{g:α→Bool}(h:l.length≤m)(hg:∀ (k:Nat) (y:α),l[k]? = some y→g y=true):ji l m g=true:=by
 unfold ji;have h1:l.all g=true:=by
  rw[List.all_eq_true];intro y hy;obtain ⟨k,hk⟩:=List.getElem?_of_mem hy;exact hg k y hk
 simp[h,h1]
theorem zaJ{α:Type}{l:List α}{g:α→Bool}(h:ji l m g=true):l.length≤m:=by
 unfold ji at h;simp at h;exact h.1
theorem qS{α:Type}{l:List α}{g:α→Bool}(h:ji l m g=true){y:α}(hy:l[k]? = some y):g y=true:=by
 unfold ji at h;rw[Bool.and_eq_true] at h;exact List.all_eq_true.1 h.2 y (List.mem_of_getElem? hy)
theorem Zd{α:Type}{l:List α}{g:α→Bool}{y:α}(hy:l[k]? = some y)(hg:g y=false):l.all g=false:=by
 rw[List.all_eq_false];exact ⟨y,List.mem_of_getElem? hy,by simp[hg]⟩
theorem jx{α:Type}{l:List α}{g:α→Bool}(hg:∀ (k:Nat) (y:α),l[k]? = some y→g y=true):l.all g=true:=by
 rw[List.all_eq_true];intro y hy;obtain ⟨k,hk⟩:=List.getElem?_of_mem hy;exact hg k y hk
theorem za0{α:Type}{l:List α}{g:α→Bool}(h:l.all g=true){y:α}(hy:l[k]? = some y):g y=true:=List.all_eq_true.1 h y (List.mem_of_getElem? hy)
def zfD(i:In8):Bool:=decide (i.args.length≤4)
def zdj(b:Bl8):Bool:=ji b.code 30 zfD
def fnB(f:Fu8):Bool:=decide (f.regs.length≤16) && (decide (0<f.blocks.length) && ji f.blocks 12 zdj)
def zed(r:List (Int × Int)):Bool:=decide (r.length≤4)
def zdO(s:List (Int × Int) × Int × Int):Bool:=decide (s.1.length≤4)
def ifB(f:List Int):Bool:=decide (f.length≤3)
def imB(m:Int × Int × List Int):Bool:=decide (m.2.2.length≤3)
def zgA(P:Pr8):Bool:=decide (0<P.funcs.length) && (ji P.recs 6 zed && (ji P.sigs 10 zdO && (ji P.ifs 4 ifB && (ji P.ims 12 imB && ji P.funcs 12 fnB))))
def za3(P:Pr8)(q:Nat × Nat × Nat):Bool:=decide (q.2.2<(zr (zg P q.1) q.2.1).code.length) && decide ((qQ (zr (zg P q.1) q.2.1) q.2.2).op=5)
def Zf(P:Pr8)(l:List (Nat × Nat × Nat)):Nat:=l.countP (za3 P)
theorem zb0(P:Pr8)(l:List (Nat × Nat × Nat)):Zf P l≤l.length:=List.countP_le_length
theorem zaW(P:Pr8)(l:List (Nat × Nat × Nat))(q:Nat × Nat × Nat):Zf P (l ++ [q])=Zf P l+(if za3 P q then 1 else 0):=by
 unfold Zf;rw[List.countP_append,List.countP_singleton]
def jl(P:Pr8):Bool:=zgA P && (decide ((pts P).length≤600) && decide (Zf P (pts P)≤40))
def tyB(P:Pr8)(t:Int × Int):Bool:=
 if t.1=0 then decide (t.2=0) else if t.1=1 then inB t.2 P.recs.length else if t.1=2 then inB t.2 P.sigs.length else if t.1=3 then inB t.2 P.ifs.length else false
def J5(P:Pr8)(l:List (Int × Int)):Bool:=l.all (tyB P)
def Qe(l:List Int)(n:Nat):Bool:=l.all fun k=>inB k n
def zg8(P:Pr8)(s:List (Int × Int) × Int × Int):Bool:=J5 P s.1 && tyB P s.2
def zfI(P:Pr8)(m:Int × Int × List Int):Bool:=inB m.1 P.recs.length && (inB m.2.1 P.ifs.length && Qe m.2.2 P.funcs.length)
def zO(P:Pr8):Bool:=P.recs.all (J5 P) && (P.sigs.all (zg8 P) && (P.ifs.all (fun l=>Qe l P.sigs.length) && P.ims.all (zfI P)))
def tgB(n:Nat)(x:Bl8):List Nat:=
 (if (x.fin=1∨x.fin=2)∧inB x.to n=true then [x.to.toNat] else []) ++ (if x.fin=2∧x.els≠x.to∧inB x.els n=true then [x.els.toNat] else [])
theorem zjb{x:Bl8}:∀ u,u∈tgB n x→u<n:=by
 intro u hu;unfold tgB at hu;rcases List.mem_append.1 hu with h | h
 ·split at h
  ·next c=>rw[List.mem_singleton] at h;have:=zq.1 c.2;omega
  ·cases h
 ·split at h
  ·next c=>rw[List.mem_singleton] at h;have:=zq.1 c.2.2;omega
  ·cases h
theorem zlU{x:Bl8}:(tgB n x).length≤2:=by
 unfold tgB;rw[List.length_append];split <;> split <;> simp
def zz(F:Fu8):List (List Nat):=F.blocks.map (tgB F.blocks.length)
theorem zZ(F:Fu8):(zz F).length=F.blocks.length:=by unfold zz;rw[List.length_map]
theorem zfv{g:List (List Nat)}(h:¬ b<g.length):nb g b=[]:=by
 unfold nb;rw[List.getD_eq_getElem?_getD,List.getElem?_eq_none (by omega)];rfl
theorem Jc{F:Fu8}(h:b<F.blocks.length):nb (zz F) b=tgB F.blocks.length (zr F b):=by
 unfold nb zz zr;rw[List.getD_eq_getElem?_getD,List.getD_eq_getElem?_getD,List.getElem?_map,List.getElem?_eq_getElem h];rfl
theorem jJ{F:Fu8}(h:F.blocks.length≤600):Sm (zz F):=by
 refine ⟨fun j y hy=> ?_,by rw[zZ];exact h,fun j=> ?_⟩
 ·rw[zZ]
  by_cases hj:j<F.blocks.length
  ·rw[Jc hj] at hy
   exact zjb y hy
  ·rw[zfv (by rw[zZ];exact hj)] at hy
   cases hy
 ·by_cases hj:j<F.blocks.length
  ·rw[Jc hj]
   exact Nat.le_trans zlU (by decide)
  ·rw[zfv (by rw[zZ];exact hj)]
   simp
def zdS(w:World)(P:Pr8)(f b i:Nat)(e:Ending)(w':World):Prop:=∃ a cp,e=.returned (.slice a (JZ P f b i).length cp)∧zy w' 3 PtC a (JZ P f b i)∧zc [] w w'∧∀ g o,a=some ⟨g,o,none⟩→w.heap.size≤g
theorem zmY{base:Nat}{T:TypeId}{xs:List Value}(h:w.ownsRow base T c v n xs){cp:Nat}(hv:v=.slice a m cp):∀ g o,a=some ⟨g,o,none⟩→base≤g:=by
 intro g o e;subst e;rcases h.2 with ⟨e1,_⟩ | ⟨g',cap,cur,e1,hb,_⟩
 ·rw[e1] at hv
  cases hv
 ·rw[e1] at hv
  cases hv;exact hb
end Go.Proofs.YtkgoimokgbdgfaaGreatDoor
