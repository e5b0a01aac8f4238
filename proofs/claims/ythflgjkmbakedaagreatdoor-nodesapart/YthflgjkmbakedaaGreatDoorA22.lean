import Derived.Test.YthflgjkmbakedaaGreatDoorA17
import Derived.Test.YthflgjkmbakedaaGreatDoorA21

namespace Go.Proofs.YthflgjkmbakedaaGreatDoor
open Go.RowKit
open Go.Value (int pointer agg)
open Go.IntKind (i64)
set_option maxRecDepth 20000
set_option maxHeartbeats 40000000
variable {P:Pr8}{w:World}
theorem zkB{f:Fu8}{x:In8}(h:zW P f x=true)(ht:QA P f.regs=true):rtB P f x=true:=by
 obtain ⟨hr,_⟩:=Q5 h;unfold rtB;rw[Bool.and_eq_true];refine ⟨?_,?_⟩
 ·cases hd:zD x with
  | false=>rfl
  | true=>exact zA ht (qE hr hd)
 ·exact qW fun k y hy=>zA ht (qz hr k y hy)
theorem zi3{f:Fu8}{x:In8}(ht:QA P f.regs=true):(zW P f x && (rtB P f x && jr P f x))=(zW P f x && jr P f x):=by
 cases h:zW P f x with
 | false=>rfl
 | true=>rw[zkB h ht,Bool.true_and]
theorem jU(h:zB P=none):zF P=true:=by
 cases ht:zF P with
 | true=>rfl
 | false=>rw[Jg ht] at h;cases h
theorem Zq(h:zB P=none){k:Nat}(hk:k<P.funcs.length):je P k=true:=by
 have ht:=jU h;unfold zB at h;rw[if_pos ht] at h;cases hf:(List.range P.funcs.length).findSome? (J5 P) with
 | some q=>rw[hf] at h;cases h
 | none=>
  have h1:=List.findSome?_eq_none_iff.1 hf k (List.mem_range.2 hk);cases hh:je P k with
  | true=>rfl
  | false=>rw[JT hh] at h1;cases h1
theorem zic(h:zB P=none){k:Nat}(hk:k<P.funcs.length):QA P (zf P k).regs=true:=by
 have:=Zq h hk;unfold je at this;rw[Bool.and_eq_true] at this;exact this.2
theorem zi4(h:zB P=none):P.ifs.all (fun l=>Zp l P.sigs.length)=true:=by
 have:=jU h;unfold zF at this;rw[Bool.and_eq_true,Bool.and_eq_true,Bool.and_eq_true] at this;exact this.2.2.1
theorem zbf(h:zB P=none):P.funcs.all (fun g=>inB g.sig P.sigs.length)=true:=qW fun k y hy=>by
 have hk:=(List.getElem?_eq_some_iff.1 hy).1;have:=Zq h hk;unfold je at this;rw[Bool.and_eq_true] at this;have e:zf P k=y:=by
  have h2:=zg (l:=P.funcs) (k:=k) (d:=⟨0,[],[]⟩) hk;rw[hy] at h2;exact (Option.some.inj h2).symm
 rw[e] at this;exact this.1
def nmP(o:Option (Int × Int × Int)):Int × Int × Int:=o.getD (-1,0,0)
def jW(P:Pr8)(w:World)(e:Ending)(w':World):Prop:=e=.returned (.tuple #[agg #[int i64 (nmP (zB P)).1,int i64 (nmP (zB P)).2.1,int i64 (nmP (zB P)).2.2],.bool (zB P).isNone])∧zc [] w w'
theorem jW.no{w':World}{a b c:Int}(h:zB P=some (a,b,c))(k:zc [] w w'):jW P w (.returned (.tuple #[agg #[int i64 a,int i64 b,int i64 c],.bool false])) w':=by
 unfold jW;rw[h];exact ⟨rfl,k⟩
theorem jW.yes{w':World}(h:zB P=none)(k:zc [] w w'):jW P w (.returned (.tuple #[agg #[int i64 (-1),int i64 0,int i64 0],.bool true])) w':=by
 unfold jW;rw[h];exact ⟨rfl,k⟩
theorem zea{pb po:Nat}(h:PrC w pb po P)(hfew:zjI P)(hsm:zcu P):Calls Tryz.prog 76 #[pointer (some ⟨pb,po,none⟩)] w (jW P w):=by
 obtain ⟨W,hW⟩:∃ W,W=w.alloc (.cells #[int i64 0,int i64 0,int i64 0] 99):=⟨_,rfl⟩;have k2:zc [] w W:=by rw[hW];exact zc.alloc [] w _
 have hn:W.heap[w.heap.size]? = some (.cells #[int i64 0,int i64 0,int i64 0] 99 (0,0)):=by rw[hW];exact zh w _
 have HN:=hid hn;have HK:=hid k2;have HWE:=hid hW;have FIN:=hid fun (W':World) (u0 u1 u2:Value) (k:zc [] W W')=>(k2.quiet k).trans (jc W' w.heap.size u0 u1 u2) (fun x hx hl=>by simp at hx;omega);have FIN2:=hid fun (W':World) (u0 u1 u2:Value) (k:zc [] w W')=>k.trans (jc W' w.heap.size u0 u1 u2) (fun x hx hl=>by simp at hx;omega);have HPR:=hid h;have HFEW:=hid hfew;have HSM:=hid hsm;have HNM:=hid fun (t:Int × Int) (w':World) (k:zc [] W w')=>zei (PrC.stays _ _ _ _ _ (k2.quiet k) h) t;have HIN:=hid fun (r:Int) (n:Nat) (w':World)=>jp r n w';obtain ⟨a0,p0,c0,r0,_,l0⟩:=h.c0;have C0:Box (∀ w',zc [] W w'→w'.cell? ⟨pb,po,none⟩=some (.slice a0 P.recs.length p0)):=hid fun w' k=>za (k2.quiet k) c0;have D0a:Box (∀ w',zc [] w w'→w'.cell? ⟨pb,po,none⟩=some (.slice a0 P.recs.length p0)):=hid fun w' k=>za k c0;have R0:=hid r0;obtain ⟨n0,hn0⟩:∃ n,n=P.recs.length:=⟨_,rfl⟩;rw[← hn0] at C0 D0a l0;have N0:=hid hn0;have m0:(n0:Int)≤9223372036854775807:=by unfold maxLen at l0;omega
 clear c0 r0 hn0 l0;obtain ⟨a1,p1,c1,r1,_,l1⟩:=h.c1;have C1:Box (∀ w',zc [] W w'→w'.cell? ⟨pb,po+1,none⟩=some (.slice a1 P.sigs.length p1)):=hid fun w' k=>za (k2.quiet k) c1;have D1a:Box (∀ w',zc [] w w'→w'.cell? ⟨pb,po+1,none⟩=some (.slice a1 P.sigs.length p1)):=hid fun w' k=>za k c1;have R1:=hid r1;obtain ⟨n1,hn1⟩:∃ n,n=P.sigs.length:=⟨_,rfl⟩;rw[← hn1] at C1 D1a l1;have N1:=hid hn1;have m1:(n1:Int)≤9223372036854775807:=by unfold maxLen at l1;omega
 clear c1 r1 hn1 l1;obtain ⟨a2,p2,c2,r2,_,l2⟩:=h.c2;have C2:Box (∀ w',zc [] W w'→w'.cell? ⟨pb,po+2,none⟩=some (.slice a2 P.ifs.length p2)):=hid fun w' k=>za (k2.quiet k) c2;have D2a:Box (∀ w',zc [] w w'→w'.cell? ⟨pb,po+2,none⟩=some (.slice a2 P.ifs.length p2)):=hid fun w' k=>za k c2;have R2:=hid r2;obtain ⟨n2,hn2⟩:∃ n,n=P.ifs.length:=⟨_,rfl⟩;rw[← hn2] at C2 D2a l2;have N2:=hid hn2;have m2:(n2:Int)≤9223372036854775807:=by unfold maxLen at l2;omega
 clear c2 r2 hn2 l2;obtain ⟨a3,p3,c3,r3,_,l3⟩:=h.c3;have C3:Box (∀ w',zc [] W w'→w'.cell? ⟨pb,po+3,none⟩=some (.slice a3 P.ims.length p3)):=hid fun w' k=>za (k2.quiet k) c3;have D3a:Box (∀ w',zc [] w w'→w'.cell? ⟨pb,po+3,none⟩=some (.slice a3 P.ims.length p3)):=hid fun w' k=>za k c3;have R3:=hid r3;obtain ⟨n3,hn3⟩:∃ n,n=P.ims.length:=⟨_,rfl⟩;rw[← hn3] at C3 D3a l3;have N3:=hid hn3;have m3:(n3:Int)≤9223372036854775807:=by unfold maxLen at l3;omega
 clear c3 r3 hn3 l3;obtain ⟨a4,p4,c4,r4,_,l4⟩:=h.c4;have C4:Box (∀ w',zc [] W w'→w'.cell? ⟨pb,po+4,none⟩=some (.slice a4 P.funcs.length p4)):=hid fun w' k=>za (k2.quiet k) c4;have D4a:Box (∀ w',zc [] w w'→w'.cell? ⟨pb,po+4,none⟩=some (.slice a4 P.funcs.length p4)):=hid fun w' k=>za k c4;have R4:=hid r4;obtain ⟨n4,hn4⟩:∃ n,n=P.funcs.length:=⟨_,rfl⟩;rw[← hn4] at C4 D4a l4;have N4:=hid hn4;have m4:(n4:Int)≤9223372036854775807:=by unfold maxLen at l4;omega
 clear c4 r4 hn4 l4;have c5:=h.c5.1;have D5a:Box (∀ w',zc [] w w'→w'.cell? ⟨pb,po+5,none⟩=some (int i64 P.main)):=hid fun w' k=>za k c5;have C5:Box (∀ w',zc [] W w'→w'.cell? ⟨pb,po+5,none⟩=some (int i64 P.main)):=hid fun w' k=>za (k2.quiet k) c5;clear h hfew hsm hW k2 hn c5;go_enter Tryz.func76,Tryz.ntmps76;go_upto_region 1 with fail;rw[← HWE.o];clear HWE;generalize w.heap.size=q at *;go_wp2_with fail
 go_loopw [5,4] (fun iv bv wr=>∃ (k:Nat) (b:Bool),k≤n0∧iv=int i64 (k:Int)∧bv=.bool b∧Box (zc [] W wr)∧Box (b=(true && zau P.recs (QA P) k))) (fun iv _ _=>n0 - (intOf iv).toNat)
 case atStart=>exact ⟨0,true,by omega,rfl,rfl,hid (zc.refl _ _),hid (by rw[jm];rfl)⟩
 case round=>
 obtain ⟨k,b1,hk,rfl,rfl,HK1,HB1⟩:=hrel;have c0:=C0.o _ HK1.o;by_cases hlt:k<n0
 case pos=>as_aux_lemma=>
  have hlt':(k:Int)<(n0:Int):=by omega
  have HY:=hid (zg (l:=P.recs) (k:=k) (d:=[]) (by rw[← N0.o];exact hlt));obtain ⟨gb,go,rfl,hgc⟩:=R0.o.at HY.o;obtain ⟨ga,gp,gc,grr,_,gl⟩:=hgc;rw[Nat.mul_one] at gc
  have GC:Box (∀ w',zc [] W w'→w'.cell? ⟨gb,go+k,none⟩=some (.slice ga (P.recs.getD k []).length gp)):=hid (by
   have g:=gc
   exact fun w' kk=>za (HK.o.quiet kk) g)
  have GR:=hid grr;obtain ⟨gn,hgn⟩:∃ n,n=(P.recs.getD k []).length:=⟨_,rfl⟩;rw[← hgn] at GC gl;have GN:=hid hgn;have gm:(gn:Int)≤9223372036854775807:=by unfold maxLen at gl;omega
  clear gc grr hgn gl;go_wp2_with fail;clear c0
  go_loopw [6,4] (fun iv bv wr=>∃ (i:Nat) (b:Bool),i≤gn∧iv=int i64 (i:Int)∧bv=.bool b∧Box (zc [] W wr)∧Box (b=(b1 && zau (P.recs.getD k []) (tyB P) i))) (fun iv _ _=>gn - (intOf iv).toNat)
  case atStart=>exact ⟨0,b1,by omega,rfl,rfl,HK1,hid (by rw[jm,Bool.and_true])⟩
  case round=>
   obtain ⟨i,b2,hi,rfl,rfl,HK2,HB2⟩:=hrel;have c0:=C0.o _ HK2.o;have g0:=GC.o _ HK2.o;by_cases hli:i<gn
   ·have hli':(i:Int)<(gn:Int):=by omega
    have HZ:=hid (zg (l:=P.recs.getD k []) (k:=i) (d:=(0,0)) (by rw[← GN.o];exact hli));obtain ⟨tb,tq,rfl,htc⟩:=GR.o.at HZ.o;have t0:=za (HK.o.quiet HK2.o) htc.c0.1;have t1:=za (HK.o.quiet HK2.o) htc.c1.1;have HC:=hid (HNM.o ((P.recs.getD k []).getD i (0,0)) _ HK2.o);have HS:Box (∀ b3,b3=(b2 && tyB P ((P.recs.getD k []).getD i (0,0)))→b3=(b1 && zau (P.recs.getD k []) (tyB P) (i+1))):=hid fun b3 e=>by rw[e,HB2.o,jn HZ.o,Bool.and_assoc]
    clear htc;unfold tyV at HC;generalize (P.recs.getD k []).getD i (0,0)=T at *;cases b2 with
    | true=>
     go_wp2_with fail;refine HC.o.mono ?_;rintro e w3 ⟨rfl,k3⟩;have K3:=hid (HK2.o.quiet k3);clear k3;go_wp2_with fail;go_roundw
     case rel=>exact ⟨i+1,_,by omega,by go_num,rfl,K3,hid (HS.o _ rfl)⟩
     case measure=>simp[intOf];omega
    | false=>
     go_wp2_with fail;go_roundw
     case rel=>exact ⟨i+1,false,by omega,by go_num,rfl,HK2,hid (HS.o _ rfl)⟩
     case measure=>simp[intOf];omega
   ·obtain rfl:gn=i:=by omega
    go_wp2_with fail;go_roundw
    case rel=>exact ⟨k+1,b2,by omega,by go_num,rfl,HK2,hid (by rw[HB2.o,HB1.o,jo GN.o,jn HY.o,Bool.and_assoc];rfl)⟩
    case measure=>simp[intOf];omega
 obtain rfl:n0=k:=by omega
 have T1:Box (b1=P.recs.all (QA P)):=hid (by rw[HB1.o,jo N0.o,Bool.true_and]);clear HB1 hlt hk;go_wp2_with fail;clear c0
 go_loopw [7,4] (fun iv bv wr=>∃ (k:Nat) (b:Bool),k≤n1∧iv=int i64 (k:Int)∧bv=.bool b∧Box (zc [] W wr)∧Box (b=(b1 && zau P.sigs (ze7 P) k))) (fun iv _ _=>n1 - (intOf iv).toNat)
 case atStart=>exact ⟨0,b1,by omega,rfl,rfl,HK1,hid (by rw[jm,Bool.and_true])⟩
 case round=>
 obtain ⟨k,b2,hk,rfl,rfl,HK2,HB2⟩:=hrel;have c1:=C1.o _ HK2.o;by_cases hlt:k<n1
 case pos=>as_aux_lemma=>
  have hlt':(k:Int)<(n1:Int):=by omega
  have HY:=hid (zg (l:=P.sigs) (k:=k) (d:=([],0,0)) (by rw[← N1.o];exact hlt));obtain ⟨gb,go,rfl,hgc⟩:=R1.o.at HY.o;have HGC:=hid hgc;obtain ⟨ga,gp,gc,grr,_,gl⟩:=hgc.c0
  have GC:Box (∀ w',zc [] W w'→w'.cell? ⟨gb,go+k * 3,none⟩=some (.slice ga (P.sigs.getD k ([],0,0)).1.length gp)):=hid (by
   have g:=gc
   exact fun w' kk=>za (HK.o.quiet kk) g)
  have GR:=hid grr;obtain ⟨gn,hgn⟩:∃ n,n=(P.sigs.getD k ([],0,0)).1.length:=⟨_,rfl⟩;rw[← hgn] at GC gl;have GN:=hid hgn;have gm:(gn:Int)≤9223372036854775807:=by unfold maxLen at gl;omega
  clear gc grr hgn gl hgc;go_wp2_with fail;clear c1
  go_loopw [8,4] (fun iv bv wr=>∃ (i:Nat) (b:Bool),i≤gn∧iv=int i64 (i:Int)∧bv=.bool b∧Box (zc [] W wr)∧Box (b=(b2 && zau (P.sigs.getD k ([],0,0)).1 (tyB P) i))) (fun iv _ _=>gn - (intOf iv).toNat)
  case atStart=>exact ⟨0,b2,by omega,rfl,rfl,HK2,hid (by rw[jm,Bool.and_true])⟩
  case round=>
   obtain ⟨i,b3,hi,rfl,rfl,HK3,HB3⟩:=hrel;have c1:=C1.o _ HK3.o;have g0:=GC.o _ HK3.o;by_cases hli:i<gn
   ·have hli':(i:Int)<(gn:Int):=by omega
    have HZ:=hid (zg (l:=(P.sigs.getD k ([],0,0)).1) (k:=i) (d:=(0,0)) (by rw[← GN.o];exact hli));obtain ⟨tb,tq,rfl,htc⟩:=GR.o.at HZ.o;have t0:=za (HK.o.quiet HK3.o) htc.c0.1;have t1:=za (HK.o.quiet HK3.o) htc.c1.1;have HC:=hid (HNM.o ((P.sigs.getD k ([],0,0)).1.getD i (0,0)) _ HK3.o);have HS:Box (∀ b4,b4=(b3 && tyB P ((P.sigs.getD k ([],0,0)).1.getD i (0,0)))→b4=(b2 && zau (P.sigs.getD k ([],0,0)).1 (tyB P) (i+1))):=hid fun b4 e=>by rw[e,HB3.o,jn HZ.o,Bool.and_assoc]
    clear htc;unfold tyV at HC;generalize (P.sigs.getD k ([],0,0)).1.getD i (0,0)=T at *;cases b3 with
    | true=>
     go_wp2_with fail;refine HC.o.mono ?_;rintro e w3 ⟨rfl,k3⟩;have K3:=hid (HK3.o.quiet k3);clear k3;go_wp2_with fail;go_roundw
     case rel=>exact ⟨i+1,_,by omega,by go_num,rfl,K3,hid (HS.o _ rfl)⟩
     case measure=>simp[intOf];omega
    | false=>
     go_wp2_with fail;go_roundw
     case rel=>exact ⟨i+1,false,by omega,by go_num,rfl,HK3,hid (HS.o _ rfl)⟩
     case measure=>simp[intOf];omega
   ·obtain rfl:gn=i:=by omega
    have u1:=za (HK.o.quiet HK3.o) HGC.o.c1.1;have u2:=za (HK.o.quiet HK3.o) HGC.o.c2.1;have HC:=hid (HNM.o (P.sigs.getD k ([],0,0)).2 _ HK3.o);have HS:Box (∀ b4,b4=(b3 && tyB P (P.sigs.getD k ([],0,0)).2)→b4=(b1 && zau P.sigs (ze7 P) (k+1))):=hid fun b4 e=>by
     rw[e,HB3.o,HB2.o,jo GN.o,jn HY.o];unfold ze7 QA;simp only[Bool.and_assoc]
    unfold tyV at HC;generalize (P.sigs.getD k ([],0,0)).2=T at *;cases b3 with
    | true=>
     go_wp2_with fail;refine HC.o.mono ?_;rintro e w3 ⟨rfl,k3⟩;have K3:=hid (HK3.o.quiet k3);clear k3;go_wp2_with fail;go_roundw
     case rel=>exact ⟨k+1,_,by omega,by go_num,rfl,K3,hid (HS.o _ rfl)⟩
     case measure=>simp[intOf];omega
    | false=>
     go_wp2_with fail;go_roundw
     case rel=>exact ⟨k+1,false,by omega,by go_num,rfl,HK3,hid (HS.o _ rfl)⟩
     case measure=>simp[intOf];omega
 obtain rfl:n1=k:=by omega
 have T2:Box (b2=(P.recs.all (QA P) && P.sigs.all (ze7 P))):=hid (by rw[HB2.o,jo N1.o,T1.o]);clear HB2 hlt hk T1;go_wp2_with fail;clear c1
 go_loopw [9,4] (fun iv bv wr=>∃ (k:Nat) (b:Bool),k≤n2∧iv=int i64 (k:Int)∧bv=.bool b∧Box (zc [] W wr)∧Box (b=(b2 && zau P.ifs (fun l=>Zp l P.sigs.length) k))) (fun iv _ _=>n2 - (intOf iv).toNat)
 case atStart=>exact ⟨0,b2,by omega,rfl,rfl,HK2,hid (by rw[jm,Bool.and_true])⟩
 case round=>
 obtain ⟨k,b3,hk,rfl,rfl,HK3,HB3⟩:=hrel;have c2:=C2.o _ HK3.o;by_cases hlt:k<n2
 case pos=>as_aux_lemma=>
  have hlt':(k:Int)<(n2:Int):=by omega
  have HY:=hid (zg (l:=P.ifs) (k:=k) (d:=[]) (by rw[← N2.o];exact hlt));obtain ⟨gb,go,rfl,hgc⟩:=R2.o.at HY.o;obtain ⟨ga,gp,gc,grr,_,gl⟩:=hgc;rw[Nat.mul_one] at gc
  have GC:Box (∀ w',zc [] W w'→w'.cell? ⟨gb,go+k,none⟩=some (.slice ga (P.ifs.getD k []).length gp)):=hid (by
   have g:=gc
   exact fun w' kk=>za (HK.o.quiet kk) g)
  have GR:=hid grr;obtain ⟨gn,hgn⟩:∃ n,n=(P.ifs.getD k []).length:=⟨_,rfl⟩;rw[← hgn] at GC gl;have GN:=hid hgn;have gm:(gn:Int)≤9223372036854775807:=by unfold maxLen at gl;omega
  clear gc grr hgn gl;go_wp2_with fail;clear c2
  go_loopw [10,4] (fun iv bv wr=>∃ (i:Nat) (b:Bool),i≤gn∧iv=int i64 (i:Int)∧bv=.bool b∧Box (zc [] W wr)∧Box (b=(b3 && zau (P.ifs.getD k []) (fun r=>inB r n1) i))) (fun iv _ _=>gn - (intOf iv).toNat)
  case atStart=>exact ⟨0,b3,by omega,rfl,rfl,HK3,hid (by rw[jm,Bool.and_true])⟩
  case round=>
   obtain ⟨i,b4,hi,rfl,rfl,HK4,HB4⟩:=hrel;have c2:=C2.o _ HK4.o;have c1:=C1.o _ HK4.o;have g0:=GC.o _ HK4.o;by_cases hli:i<gn
   ·have hli':(i:Int)<(gn:Int):=by omega
    have HZ:=hid (zg (l:=P.ifs.getD k []) (k:=i) (d:=0) (by rw[← GN.o];exact hli));obtain ⟨tb,tq,rfl,htc⟩:=GR.o.at HZ.o;have t0:=za (HK.o.quiet HK4.o) htc.1;rw[Nat.mul_one] at t0;have HC:=hid (HIN.o ((P.ifs.getD k []).getD i 0) n1);have HS:Box (∀ b5,b5=(b4 && inB ((P.ifs.getD k []).getD i 0) n1)→b5=(b3 && zau (P.ifs.getD k []) (fun r=>inB r n1) (i+1))):=hid fun b5 e=>by rw[e,HB4.o,jn HZ.o,Bool.and_assoc]
    clear htc;generalize (P.ifs.getD k []).getD i 0=T at *;generalize inB T n1=tb1 at *;go_upto_region 23 with fail;cases b4 with
    | true=>
     go_quiet ((go_at_call 109;exact Calls.quiet_of_same (HC.o _)));go_wp2_with fail;go_roundw
     case rel=>exact ⟨i+1,_,by omega,by go_num,rfl,hid (HK4.o.quiet (zc.drewN _ _ _)),hid (HS.o _ (by rw[Bool.true_and]))⟩
     case measure=>simp[intOf];omega
    | false=>
     go_quiet (fail);go_wp2_with fail;go_roundw
     case rel=>exact ⟨i+1,false,by omega,by go_num,rfl,hid (HK4.o.quiet (zc.drewN _ _ _)),hid (HS.o _ rfl)⟩
     case measure=>simp[intOf];omega
   ·obtain rfl:gn=i:=by omega
    go_wp2_with fail;go_roundw
    case rel=>exact ⟨k+1,b4,by omega,by go_num,rfl,HK4,hid (by
     rw[HB4.o,HB3.o,jo GN.o,jn HY.o,Bool.and_assoc,N1.o]
     rfl)⟩
    case measure=>simp[intOf];omega
 obtain rfl:n2=k:=by omega
 have T3:Box (b3=((P.recs.all (QA P) && P.sigs.all (ze7 P)) && P.ifs.all (fun l=>Zp l P.sigs.length))):=hid (by rw[HB3.o,jo N2.o,T2.o]);clear HB3 hlt hk T2;go_wp2_with fail;clear c2
 go_loopw [11,4] (fun iv bv wr=>∃ (k:Nat) (b:Bool),k≤n3∧iv=int i64 (k:Int)∧bv=.bool b∧Box (zc [] W wr)∧Box (b=(b3 && zau P.ims (zec P) k))) (fun iv _ _=>n3 - (intOf iv).toNat)
 case atStart=>exact ⟨0,b3,by omega,rfl,rfl,HK3,hid (by rw[jm,Bool.and_true])⟩
 case round=>
 obtain ⟨k,b4,hk,rfl,rfl,HK4,HB4⟩:=hrel;have c3:=C3.o _ HK4.o;by_cases hlt:k<n3
 case pos=>as_aux_lemma=>
  have hlt':(k:Int)<(n3:Int):=by omega
  have HY:=hid (zg (l:=P.ims) (k:=k) (d:=(0,0,[])) (by rw[← N3.o];exact hlt));obtain ⟨gb,go,rfl,hgc⟩:=R3.o.at HY.o;obtain ⟨ga,gp,gc,grr,_,gl⟩:=hgc.c2;have y0:=za (HK.o.quiet HK4.o) hgc.c0.1;have y1:=za (HK.o.quiet HK4.o) hgc.c1.1;have y2:=za (HK.o.quiet HK4.o) gc;have GR:=hid grr;obtain ⟨gn,hgn⟩:∃ n,n=(P.ims.getD k (0,0,[])).2.2.length:=⟨_,rfl⟩;rw[← hgn] at y2 gl;have GN:=hid hgn;have gm:(gn:Int)≤9223372036854775807:=by unfold maxLen at gl;omega
  clear gc grr hgn gl hgc;have HM:Box (zec P (P.ims.getD k (0,0,[]))=(inB (P.ims.getD k (0,0,[])).1 n0 && (inB (P.ims.getD k (0,0,[])).2.1 n2 && Zp (P.ims.getD k (0,0,[])).2.2 n4))):=hid (by rw[N0.o,N2.o,N4.o];rfl);generalize hmm:P.ims.getD k (0,0,[])=mm at *;clear hmm;go_upto_region 28 with fail;have hbx:=zh wr (.cells #[int i64 mm.1,int i64 mm.2.1,.slice ga gn gp] 61);have KA:Box (zc [] W (wr.alloc (.cells #[int i64 mm.1,int i64 mm.2.1,.slice ga gn gp] 61))):=hid (HK4.o.quiet (zc.alloc [] _ _));have HBX:=hid hbx;clear hbx y0 y1 y2 c3;generalize wr.alloc (.cells #[int i64 mm.1,int i64 mm.2.1,.slice ga gn gp] 61)=w5 at *;generalize wr.heap.size=q5 at *;have z0:=zd HBX.o 0;have z1:=zd HBX.o 1;have c0:=C0.o _ KA.o;have c2:=C2.o _ KA.o;have HC0:=hid (HIN.o mm.1 n0);have HC2:=hid (HIN.o mm.2.1 n2)
  go_cut [4] (fun v4 wz=>∃ b5:Bool,v4=.bool b5∧Box (zc [] w5 wz)∧Box (b5=(b4 && (inB mm.1 n0 && inB mm.2.1 n2))))
  case first=>
   generalize inB mm.1 n0=i0 at *;generalize inB mm.2.1 n2=i2 at *;cases b4 with
   | false=>
    go_quiet (fail);go_wp2_with fail;go_meet;exact ⟨false,rfl,hid (zc.drewN _ _ _),hid rfl⟩
   | true=>
    cases i0 with
    | false=>
     go_quiet ((go_at_call 109;exact Calls.quiet_of_same (HC0.o _)));go_wp2_with fail;go_meet;exact ⟨false,rfl,hid (zc.drewN _ _ _),hid rfl⟩
    | true=>
     go_quiet ((go_at_call 109;first | with_reducible exact Calls.quiet_of_same (HC0.o _) | with_reducible exact Calls.quiet_of_same (HC2.o _)));go_wp2_with fail;go_meet;exact ⟨i2,rfl,hid (zc.drewN _ _ _),hid rfl⟩
  case rest=>
  obtain ⟨b5,rfl,HKZ,HB5⟩:=hcut;clear z0 z1 c0 c2 HC0 HC2;go_wp2_with fail
  go_loopw [13,4] (fun iv bv wr=>∃ (i:Nat) (b:Bool),i≤gn∧iv=int i64 (i:Int)∧bv=.bool b∧Box (zc [] w5 wr)∧Box (b=(b5 && zau mm.2.2 (fun r=>inB r n4) i))) (fun iv _ _=>gn - (intOf iv).toNat)
  case atStart=>exact ⟨0,b5,by omega,rfl,rfl,HKZ,hid (by rw[jm,Bool.and_true])⟩
  case round=>
   obtain ⟨i,b6,hi,rfl,rfl,HK6,HB6⟩:=hrel;have z2:=zd (ze HBX.o HK6.o) 2;have c4:=C4.o _ (KA.o.quiet HK6.o);by_cases hli:i<gn
   ·have hli':(i:Int)<(gn:Int):=by omega
    have HZ:=hid (zg (l:=mm.2.2) (k:=i) (d:=0) (by rw[← GN.o];exact hli));obtain ⟨tb,tq,rfl,htc⟩:=GR.o.at HZ.o;have t0:=za (HK.o.quiet (KA.o.quiet HK6.o)) htc.1;rw[Nat.mul_one] at t0;have HC:=hid (HIN.o (mm.2.2.getD i 0) n4);have HS:Box (∀ b7,b7=(b6 && inB (mm.2.2.getD i 0) n4)→b7=(b5 && zau mm.2.2 (fun r=>inB r n4) (i+1))):=hid fun b7 e=>by rw[e,HB6.o,jn HZ.o,Bool.and_assoc]
    clear htc;generalize mm.2.2.getD i 0=T at *;generalize inB T n4=tb1 at *;go_upto_region 32 with fail;cases b6 with
    | true=>
     go_quiet ((go_at_call 109;exact Calls.quiet_of_same (HC.o _)));go_wp2_with fail;go_roundw
     case rel=>exact ⟨i+1,_,by omega,by go_num,rfl,hid (HK6.o.quiet (zc.drewN _ _ _)),hid (HS.o _ (by rw[Bool.true_and]))⟩
     case measure=>simp[intOf];omega
    | false=>
     go_quiet (fail);go_wp2_with fail;go_roundw
     case rel=>exact ⟨i+1,false,by omega,by go_num,rfl,hid (HK6.o.quiet (zc.drewN _ _ _)),hid (HS.o _ rfl)⟩
     case measure=>simp[intOf];omega
   ·obtain rfl:gn=i:=by omega
    go_wp2_with fail;go_roundw
    case rel=>exact ⟨k+1,b6,by omega,by go_num,rfl,hid (KA.o.quiet HK6.o),hid (by
     rw[HB6.o,HB5.o,HB4.o,jo GN.o,jn HY.o,HM.o];unfold Zp
     simp only[Bool.and_assoc])⟩
    case measure=>simp[intOf];omega
 obtain rfl:n3=k:=by omega
 have T4:Box (b4=zF P):=hid (by
  rw[HB4.o,jo N3.o,T3.o];unfold zF
  simp only[Bool.and_assoc])
 clear HB4 hlt hk T3;cases b4 with
 | false=>
  have HQ:=hid (Jg T4.o.symm);go_wp2_with fail;refine (zV _).mono ?_;rintro e w6 ⟨rfl,k6⟩;have hb6:=ze HN.o (HK4.o.quiet k6);have K6:=hid (HK4.o.quiet k6);have y0:=zi hb6 0;have y1:=zi hb6 1;have y2:=zi hb6 2;have x0:=zd hb6 0;have x1:=zd hb6 1;have x2:=zd hb6 2;have HB6:=hid hb6;clear hb6 k6;go_wp2_with fail;have h3:=jZ HB6.o (int i64 (-1)) (int i64 0) (int i64 0);have e0:=zd h3 0;have e1:=zd h3 1;have e2:=zd h3 2;exact bodyPost_ret (v:=.tuple #[agg #[int i64 (-1),int i64 0,int i64 0],.bool false]) (by simp[results,Tryz.results76,go_sem,e0,e1,e2]) rfl (jW.no HQ.o (FIN.o _ _ _ _ K6.o))
 | true=>
 have HTT:Box (zF P=true):=hid T4.o.symm;clear T4
 have HIF:Box (P.ifs.all (fun l=>Zp l P.sigs.length)=true):=hid (by
  have:=HTT.o;unfold zF at this;rw[Bool.and_eq_true,Bool.and_eq_true,Bool.and_eq_true] at this
  exact this.2.2.1)
 have HFN:Box (∀ k,k<P.funcs.length→(∀ j,j<k→J5 P j=none)→∀ q,J5 P k=some q→zB P=some q):=hid fun k hk hl q hq=>zbN HTT.o hk hl hq;have HEND:=hid fun hl=>za6 HTT.o hl;go_wp2_with fail
 go_loopw [14] (fun iv wr=>∃ k:Nat,k≤n4∧iv=int i64 (k:Int)∧Box (zc [] W wr)∧Box (∀ j,j<k→J5 P j=none)) (fun iv _=>n4 - (intOf iv).toNat)
 case atStart=>exact ⟨0,by omega,rfl,HK4,hid fun j hj=>by omega⟩
 case round=>
 obtain ⟨k,hk,rfl,HK5,HB⟩:=hrel;clear HK4;have c4:=C4.o _ HK5.o;by_cases hlt:k<n4
 case pos=>as_aux_lemma=>
  have hlt':(k:Int)<(n4:Int):=by omega
  have HKF:Box (k<P.funcs.length):=hid (by rw[← N4.o];exact hlt);obtain ⟨gb,go,rfl,hgc0⟩:=R4.o.at (zg (l:=P.funcs) (k:=k) (d:=⟨0,[],[]⟩) HKF.o);have hgc:FuC w gb (go+k * 3) (zf P k):=hgc0;obtain ⟨ra,rp,rc,rrr,_,rl⟩:=hgc.c1;obtain ⟨ba,bp,bc,brr,_,bl⟩:=hgc.c2;have y0:=za (HK.o.quiet HK5.o) hgc.c0.1;have y1:=za (HK.o.quiet HK5.o) rc;have y2:=za (HK.o.quiet HK5.o) bc;have RR:=hid rrr;have BR:=hid brr;have HNK:=hid (HFN.o k HKF.o HB.o);have HBAD:=hid fun (hh:je P k=true) (b i:Nat) (hb:b<(zf P k).blocks.length) (hi:i≤(zr (zf P k) b).code.length) (hl:j9 P (ptF (zf P k) k b ++ ptB k b i)) (hq:zcs P (k,b,i)=false)=>zdn hh hb hi hl hq;have HGOOD:=hid fun (hh:je P k=true) (hl:j9 P (ptF (zf P k) k (zf P k).blocks.length))=>zbT hh hl;have HHEAD:=hid fun (hh:je P k=false)=>JT hh;obtain ⟨rn,hrn⟩:∃ n,n=(zf P k).regs.length:=⟨_,rfl⟩;obtain ⟨bn,hbn⟩:∃ n,n=(zf P k).blocks.length:=⟨_,rfl⟩;rw[← hrn] at y1 rl;rw[← hbn] at y2 bl;have RN:=hid hrn;have BN:=hid hbn;have rm:(rn:Int)≤9223372036854775807:=by unfold maxLen at rl;omega
  have bm:(bn:Int)≤9223372036854775807:=by unfold maxLen at bl;omega
  have HHE:Box (je P k=(inB (zf P k).sig n1 && (zf P k).regs.all (tyB P))):=hid (by rw[N1.o];rfl);clear hgc hgc0 rc bc rrr brr hrn hbn rl bl;generalize hff:zf P k=ff at *;have HFF:=hid hff;clear hff;go_upto_region 39 with fail;have hbx:=zh wr (.cells #[int i64 ff.sig,.slice ra rn rp,.slice ba bn bp] 50);have KA:Box (zc [] W (wr.alloc (.cells #[int i64 ff.sig,.slice ra rn rp,.slice ba bn bp] 50))):=hid (HK5.o.quiet (zc.alloc [] _ _));have HBX:=hid hbx;clear hbx y0 y1 y2 c4;generalize wr.alloc (.cells #[int i64 ff.sig,.slice ra rn rp,.slice ba bn bp] 50)=w5 at *;generalize wr.heap.size=q5 at *;have z0:=zd HBX.o 0;have c1:=C1.o _ KA.o;have HC:=hid (HIN.o ff.sig n1);generalize inB ff.sig n1=sb at *;go_quiet ((go_at_call 109;exact Calls.quiet_of_same (HC.o _)));have KD:Box (zc [] w5 (w5.drewN nq)):=hid (zc.drewN _ _ _);generalize w5.drewN nq=w6 at *;clear z0 c1 HC;go_wp2_with fail
  go_loopw [16,4] (fun iv bv wr=>∃ (i:Nat) (b:Bool),i≤rn∧iv=int i64 (i:Int)∧bv=.bool b∧Box (zc [] w5 wr)∧Box (b=(sb && zau ff.regs (tyB P) i))) (fun iv _ _=>rn - (intOf iv).toNat)
  case atStart=>exact ⟨0,sb,by omega,rfl,rfl,KD,hid (by rw[jm,Bool.and_true])⟩
  case round=>
  obtain ⟨i,b6,hi,rfl,rfl,HK6,HB6⟩:=hrel;have z1:=zd (ze HBX.o HK6.o) 1;by_cases hli:i<rn
  case pos=>as_aux_lemma=>
   have hli':(i:Int)<(rn:Int):=by omega
   have HZ:=hid (zg (l:=ff.regs) (k:=i) (d:=(0,0)) (by rw[← RN.o];exact hli));obtain ⟨tb,tq,rfl,htc⟩:=RR.o.at HZ.o;have t0:=za (HK.o.quiet (KA.o.quiet HK6.o)) htc.c0.1;have t1:=za (HK.o.quiet (KA.o.quiet HK6.o)) htc.c1.1;have HC:=hid (HNM.o (ff.regs.getD i (0,0)) _ (KA.o.quiet HK6.o));have HS:Box (∀ b7,b7=(b6 && tyB P (ff.regs.getD i (0,0)))→b7=(sb && zau ff.regs (tyB P) (i+1))):=hid fun b7 e=>by rw[e,HB6.o,jn HZ.o,Bool.and_assoc]
   clear htc;unfold tyV at HC;generalize ff.regs.getD i (0,0)=T at *;cases b6 with
   | true=>
    go_wp2_with fail;refine HC.o.mono ?_;rintro e w3 ⟨rfl,k3⟩;have K3:=hid (HK6.o.quiet k3);clear k3;go_wp2_with fail;go_roundw
    case rel=>exact ⟨i+1,_,by omega,by go_num,rfl,K3,hid (HS.o _ rfl)⟩
    case measure=>simp[intOf];omega
   | false=>
    go_wp2_with fail;go_roundw
    case rel=>exact ⟨i+1,false,by omega,by go_num,rfl,HK6,hid (HS.o _ rfl)⟩
    case measure=>simp[intOf];omega
  obtain rfl:rn=i:=by omega
  have HH:Box (b6=je P k):=hid (by rw[HB6.o,jo RN.o,HHE.o]);clear HB6 HHE hli hi;cases b6 with
  | false=>
   have HQ:=hid (HNK.o _ (HHEAD.o HH.o.symm));have KX:=hid (KA.o.quiet HK6.o);go_wp2_with fail;refine (zV _).mono ?_;rintro e w6 ⟨rfl,k6⟩;have hb6:=ze HN.o (KX.o.quiet k6);have K6:=hid (KX.o.quiet k6);have y0:=zi hb6 0;have y1:=zi hb6 1;have y2:=zi hb6 2;have x0:=zd hb6 0;have x1:=zd hb6 1;have x2:=zd hb6 2;have HB6:=hid hb6;clear hb6 k6;go_wp2_with fail;have h3:=jZ HB6.o (int i64 (-1)) (int i64 0) (int i64 0);have e0:=zd h3 0;have e1:=zd h3 1;have e2:=zd h3 2;exact bodyPost_ret (v:=.tuple #[agg #[int i64 (-1),int i64 0,int i64 0],.bool false]) (by simp[results,Tryz.results76,go_sem,e0,e1,e2]) rfl (jW.no HQ.o (FIN.o _ _ _ _ K6.o))
  | true=>
  have HHT:Box (je P k=true):=hid HH.o.symm
  have HTY:Box (QA P ff.regs=true):=hid (by
   have:=HHT.o;unfold je at this;rw[Bool.and_eq_true,HFF.o] at this
   exact this.2)
  have HRIN:=hid fun (w':World) (kk:zc [] w5 w') (x:In8) (xa:Option Addr) (cp:Nat) (hz:zw w' xa x.args) (hl:x.args.length≤1000)=>zaJ (cp:=cp) (PrC.stays _ _ _ _ _ (HK.o.quiet (KA.o.quiet kk)) HPR.o) (z7.quiet RR.o TyC.stays (HK.o.quiet (KA.o.quiet kk))) RN.o rp (.slice ba bn bp) HTY.o HIF.o x hz hl;clear HH;go_wp2_with fail
  go_loopw [17] (fun iv wr=>∃ b:Nat,b≤bn∧iv=int i64 (b:Int)∧Box (zc [] w5 wr)∧Box (j9 P (ptF ff k b))) (fun iv _=>bn - (intOf iv).toNat)
  case atStart=>exact ⟨0,by omega,rfl,HK6,hid (j9.nil P)⟩
  case round=>
  obtain ⟨b,hb,rfl,HK7,HAL⟩:=hrel;clear HK6 z1;have z2:=zd (ze HBX.o HK7.o) 2;by_cases hlb:b<bn
  case pos=>as_aux_lemma=>
   have hlt_b:(b:Int)<(bn:Int):=by omega
   have hbf:Box (b<ff.blocks.length):=hid (by rw[← BN.o];exact hlb);obtain ⟨bb,bo,rfl,hbl0⟩:=BR.o.at (show ff.blocks[b]? = some (zr ff b) from zg hbf.o);obtain ⟨ca,cp,e3,rc,_,hcl⟩:=hbl0.c0
   have BLC:Box (∀ w',zc [] w5 w'→w'.cell? ⟨bb,bo+b * 5,none⟩=some (.slice ca (zr ff b).code.length cp)∧w'.cell? ⟨bb,bo+b * 5+1,none⟩=some (int i64 (zr ff b).fin)∧w'.cell? ⟨bb,bo+b * 5+2,none⟩=some (int i64 (zr ff b).reg)∧w'.cell? ⟨bb,bo+b * 5+3,none⟩=some (int i64 (zr ff b).to)∧w'.cell? ⟨bb,bo+b * 5+4,none⟩=some (int i64 (zr ff b).els)):=hid (by
    have g:=e3
    exact fun w' kk=>⟨za (HK.o.quiet (KA.o.quiet kk)) g,za (HK.o.quiet (KA.o.quiet kk)) hbl0.c1.1,za (HK.o.quiet (KA.o.quiet kk)) hbl0.c2.1,za (HK.o.quiet (KA.o.quiet kk)) hbl0.c3.1,za (HK.o.quiet (KA.o.quiet kk)) hbl0.c4.1⟩)
   have HRC:=hid rc;obtain ⟨cn,hcn⟩:∃ m,m=(zr ff b).code.length:=⟨_,rfl⟩;rw[← hcn] at BLC hcl;have HCN:=hid hcn;have hcl9:(cn:Int)≤9223372036854775806:=by
    have:=HSM.o.code (f:=k) (b:=b) HKF.o (by rw[HFF.o];exact hbf.o);rw[HFF.o, ← HCN.o] at this;omega
   have HAL2:Box (j9 P (ptF ff k b ++ ptB k b 0)):=hid (HAL.o.cast (by rw[QN,List.append_nil]));clear hbl0 e3 rc hcn hcl;go_wp2_with fail;clear z2
   go_loopw [18] (fun iv wr=>∃ i:Nat,i≤cn+1∧iv=int i64 (i:Int)∧Box (zc [] w5 wr)∧Box (j9 P (ptF ff k b ++ ptB k b i))) (fun iv _=>cn+1 - (intOf iv).toNat)
   case atStart=>exact ⟨0,by omega,rfl,HK7,HAL2⟩
   case round=>
   obtain ⟨i,hi,rfl,HK8,HAL3⟩:=hrel;clear HAL2;have hx:=ze HBX.o HK8.o;have f0:=zd hx 0;have f1:=zd hx 1;have f2:=zd hx 2;obtain ⟨g0,g1,g2,g3,g4⟩:=BLC.o _ HK8.o;clear hx;have HSN:Box (ptF ff k b ++ ptB k b (i+1)=(ptF ff k b ++ ptB k b i) ++ [(k,b,i)]):=hid (by rw[jB, ← List.append_assoc]);by_cases hle:i≤cn
   case neg=>
    obtain rfl:i=cn+1:=by omega
    have HAL9:Box (j9 P (ptF ff k (b+1))):=hid (HAL3.o.cast (by rw[qX, ← HCN.o]));have hle':¬ ((cn+1:Nat):Int)≤(cn:Int):=by omega
    have hle2:decide (cn+1≤cn)=false:=decide_eq_false (by omega);go_wp2_with fail;go_roundw
    case rel=>exact ⟨b+1,by omega,by go_num,HK8,HAL9⟩
    case measure=>simp[intOf];omega
   have hle':(i:Int)≤(cn:Int):=by omega
   by_cases hli:i<cn
   case pos=>as_aux_lemma=>
    have hlt_i:(i:Int)<(cn:Int):=by omega
    have hif:Box (i<(zr ff b).code.length):=hid (by rw[← HCN.o];exact hli);obtain ⟨ib,io,rfl,hin⟩:=HRC.o.at (show (zr ff b).code[i]? = some (zT (zr ff b) i) from zg hif.o);obtain ⟨xa,xp,e5,q5'⟩:=SlC.val hin.c5;have hz:zw w xa (zT (zr ff b) i).args:=jL q5'.slice.2.1;have kW:=HK.o.quiet (KA.o.quiet HK8.o);have F0:=za kW hin.c0.1;have F1:=za kW hin.c1.1;have F2:=za kW hin.c2.1;have F3:=za kW hin.c3.1;have F4:=za kW hin.c4.1;have F5:=za kW e5
    have HC:=hid fun (w':World) (kk:zc [] wr w')=>HRIN.o w' (HK8.o.quiet kk) (zT (zr ff b) i) xa xp (hz.kept (kW.quiet kk) (fun _ _ _=>by simp)) (by
     have:=HFEW.o k b i HKF.o;rw[HFF.o] at this
     exact this hbf.o hif.o)
    have HPT:Box (zcs P (k,b,i)=zW P ff (zT (zr ff b) i)):=hid (by
     have:=zcM (P:=P) (f:=k) (b:=b) (i:=i) (by rw[HFF.o];exact hif.o);rw[HFF.o] at this
     exact this)
    unfold z8 fnV at HC;clear hin e5 q5' hz kW;generalize zT (zr ff b) i=x at *;go_upto_region 52 with fail;generalize hok:zW P ff x=ok at *;clear hok;cases ok with
    | true=>as_aux_lemma=>
     have HAL9:Box (j9 P (ptF ff k b ++ ptB k b (i+1))):=hid ((HAL3.o.snoc (q:=(k,b,i)) HPT.o).cast HSN.o.symm);refine zm (W0:=wr) 331 [int i64 (i:Int),pointer (some ⟨q5,2,none⟩),.slice (some ⟨bb,bo,none⟩) bn bp,int i64 (b:Int),pointer (some ⟨bb,bo+b * 5,none⟩),pointer (some ⟨bb,bo+b * 5,none⟩),.slice (some ⟨ib,io,none⟩) cn cp,int i64 (cn:Int),.bool true,.bool true,pointer (some ⟨pb,po,none⟩),agg #[int i64 ff.sig,.slice ra rn rp,.slice (some ⟨bb,bo,none⟩) bn bp],pointer (some ⟨q5,2,none⟩),.slice (some ⟨bb,bo,none⟩) bn bp,int i64 (b:Int),pointer (some ⟨bb,bo+b * 5,none⟩),pointer (some ⟨bb,bo+b * 5,none⟩),.slice (some ⟨ib,io,none⟩) cn cp,int i64 (i:Int),pointer (some ⟨ib,io+i * 6,none⟩),agg #[int i64 x.op,int i64 x.dst,int i64 x.a,int i64 x.b,int i64 x.n,.slice xa x.args.length xp],.bool true,.bool false,.bool false,.bool false,int i64 (i:Int),pointer (some ⟨q5,2,none⟩),.slice (some ⟨bb,bo,none⟩) bn bp,int i64 (b:Int),pointer (some ⟨bb,bo+b * 5,none⟩),pointer (some ⟨bb,bo+b * 5,none⟩),.slice (some ⟨ib,io,none⟩) cn cp,int i64 (cn:Int),.bool false,.bool false,undef,undef,undef,undef,undef,undef,undef,undef,.bool false,.bool false] (by kernel_rfl) (by rfl) (by kernel_rfl) (zc.refl _ _) (fun A hA=> ?_);simp only[zv,Act.put,sTA,sC0,sCS] at hA;subst hA;refine ⟨gR (gR (gY (fun _ k9=>ZM (za k9 f2) rfl rfl) (gR (gY (fun _ _=>ZZ rfl rfl rfl hlt_b) (gR (gY (fun _ k9=>Zu (za k9 g0) rfl rfl) (gY (fun _ _=>Z4 rfl rfl) (gY (fun _ _=>zbs rfl rfl rfl (decide_eq_true hlt_i)) (gR (gR (gY (fun _ k9=>qK (za k9 f0) (za k9 f1) (za k9 f2) rfl rfl) (gR (gY (fun _ k9=>ZM (za k9 f2) rfl rfl) (gR (gY (fun _ _=>ZZ rfl rfl rfl hlt_b) (gR (gY (fun _ k9=>Zu (za k9 g0) rfl rfl) (gR (gY (fun _ _=>zgL rfl rfl rfl hlt_i) (gY (fun _ k9=>zgG (za k9 F0) (za k9 F1) (za k9 F2) (za k9 F3) (za k9 F4) (za k9 F5) rfl rfl) (zk.cons (zn (by rfl) 110 #[pointer (some ⟨pb,po,none⟩),agg #[int i64 ff.sig,.slice ra rn rp,.slice (some ⟨bb,bo,none⟩) bn bp],agg #[int i64 x.op,int i64 x.dst,int i64 x.a,int i64 x.b,int i64 x.n,.slice xa x.args.length xp]] (fun w=>Jc rfl rfl rfl rfl rfl (zap _ _ _ w)) (fun w9 k9=>HC.o w9 k9)) (gR (gR (gR (gR (gR (gY (fun _ k9=>ZM (za k9 f2) rfl rfl) (gR (gY (fun _ _=>ZZ rfl rfl rfl hlt_b) (gR (gY (fun _ k9=>Zu (za k9 g0) rfl rfl) (gY (fun _ _=>Z4 rfl rfl) (gY (fun _ _=>qt rfl rfl rfl (neb (by omega))) (gR (gP (gP (gP (gP (gP (gP (gP (gP (gR (gR (zk.nil))))))))))))))))))))))))))))))))))))))))))))),fun w8 k8=> ?_⟩;go_wp2_with fail;go_roundw
     case rel=>exact ⟨i+1,by omega,by go_num,hid (HK8.o.quiet k8),HAL9⟩
     case measure=>simp[intOf];omega
    | false=>as_aux_lemma=>
     have HQ:Box (zB P=some ((k:Int),(b:Int),(i:Int))):=hid (HNK.o _ (HBAD.o HHT.o b i hbf.o (Nat.le_of_lt hif.o) HAL3.o HPT.o));refine zm (W0:=wr) 331 [int i64 (i:Int),pointer (some ⟨q5,2,none⟩),.slice (some ⟨bb,bo,none⟩) bn bp,int i64 (b:Int),pointer (some ⟨bb,bo+b * 5,none⟩),pointer (some ⟨bb,bo+b * 5,none⟩),.slice (some ⟨ib,io,none⟩) cn cp,int i64 (cn:Int),.bool true,.bool true,pointer (some ⟨pb,po,none⟩),agg #[int i64 ff.sig,.slice ra rn rp,.slice (some ⟨bb,bo,none⟩) bn bp],pointer (some ⟨q5,2,none⟩),.slice (some ⟨bb,bo,none⟩) bn bp,int i64 (b:Int),pointer (some ⟨bb,bo+b * 5,none⟩),pointer (some ⟨bb,bo+b * 5,none⟩),.slice (some ⟨ib,io,none⟩) cn cp,int i64 (i:Int),pointer (some ⟨ib,io+i * 6,none⟩),agg #[int i64 x.op,int i64 x.dst,int i64 x.a,int i64 x.b,int i64 x.n,.slice xa x.args.length xp],.bool false,.bool true,.bool true,.bool true,undef,undef,undef,undef,undef,undef,undef,undef,undef,undef,undef,undef,undef,undef,undef,undef,undef,undef,undef,.bool true] (by kernel_rfl) (by rfl) (by kernel_rfl) (zc.refl _ _) (fun A hA=> ?_);simp only[zv,Act.put,sTA,sC0,sCS] at hA;subst hA;refine ⟨gR (gR (gY (fun _ k9=>ZM (za k9 f2) rfl rfl) (gR (gY (fun _ _=>ZZ rfl rfl rfl hlt_b) (gR (gY (fun _ k9=>Zu (za k9 g0) rfl rfl) (gY (fun _ _=>Z4 rfl rfl) (gY (fun _ _=>zbs rfl rfl rfl (decide_eq_true hlt_i)) (gR (gR (gY (fun _ k9=>qK (za k9 f0) (za k9 f1) (za k9 f2) rfl rfl) (gR (gY (fun _ k9=>ZM (za k9 f2) rfl rfl) (gR (gY (fun _ _=>ZZ rfl rfl rfl hlt_b) (gR (gY (fun _ k9=>Zu (za k9 g0) rfl rfl) (gR (gY (fun _ _=>zgL rfl rfl rfl hlt_i) (gY (fun _ k9=>zgG (za k9 F0) (za k9 F1) (za k9 F2) (za k9 F3) (za k9 F4) (za k9 F5) rfl rfl) (zk.cons (zn (by rfl) 110 #[pointer (some ⟨pb,po,none⟩),agg #[int i64 ff.sig,.slice ra rn rp,.slice (some ⟨bb,bo,none⟩) bn bp],agg #[int i64 x.op,int i64 x.dst,int i64 x.a,int i64 x.b,int i64 x.n,.slice xa x.args.length xp]] (fun w=>Jc rfl rfl rfl rfl rfl (zap _ _ _ w)) (fun w9 k9=>HC.o w9 k9)) (gR (gR (gR (gP (gP (gP (gP (gP (gP (gP (gP (gP (gP (gP (gP (gP (gP (gP (gP (gP (gP (gP (gR (zk.nil))))))))))))))))))))))))))))))))))))))))))))),fun w8 k8=> ?_⟩;have hb6:=ze HN.o (KA.o.quiet (HK8.o.quiet k8));have K6:=hid (KA.o.quiet (HK8.o.quiet k8));have y0:=zi hb6 0;have y1:=zi hb6 1;have y2:=zi hb6 2;have x0:=zd hb6 0;have x1:=zd hb6 1;have x2:=zd hb6 2;have HB6:=hid hb6;clear hb6;go_wp2_with fail;have h3:=jZ HB6.o (int i64 (k:Int)) (int i64 (b:Int)) (int i64 (i:Int));have e0:=zd h3 0;have e1:=zd h3 1;have e2:=zd h3 2;exact bodyPost_ret (v:=.tuple #[agg #[int i64 (k:Int),int i64 (b:Int),int i64 (i:Int)],.bool false]) (by simp[results,Tryz.results76,go_sem,e0,e1,e2]) rfl (jW.no HQ.o (FIN.o _ _ _ _ K6.o))
   obtain rfl:i=cn:=by omega
   have HC:=hid fun (w':World)=>ziS ff.sig ra rn rp (some ⟨bb,bo,none⟩) bn bp (.slice ca i cp) (zr ff b).fin (zr ff b).reg (zr ff b).to (zr ff b).els w'
   have HPT:Box (zcs P (k,b,i)=qH rn bn (zr ff b).fin (zr ff b).reg (zr ff b).to (zr ff b).els):=hid (by
    have:=QT P k b;rw[HFF.o, ← HCN.o, ← RN.o, ← BN.o] at this
    exact this)
   have hII:((i:Int) == (i:Int))=true:=eqb rfl;go_upto_region 52 with fail;generalize hok:qH rn bn (zr ff b).fin (zr ff b).reg (zr ff b).to (zr ff b).els=ok at *;clear hok;generalize (zr ff b).fin=fi at *;generalize (zr ff b).reg=re at *;generalize (zr ff b).to=tt at *;generalize (zr ff b).els=el at *;cases ok with
   | true=>as_aux_lemma=>
    have HAL9:Box (j9 P (ptF ff k b ++ ptB k b (i+1))):=hid ((HAL3.o.snoc (q:=(k,b,i)) HPT.o).cast HSN.o.symm);refine zm (W0:=wr) 331 [int i64 (i:Int),pointer (some ⟨q5,2,none⟩),.slice (some ⟨bb,bo,none⟩) bn bp,int i64 (b:Int),pointer (some ⟨bb,bo+b * 5,none⟩),pointer (some ⟨bb,bo+b * 5,none⟩),.slice ca i cp,int i64 (i:Int),.bool false,.bool false,undef,undef,undef,undef,undef,undef,undef,undef,undef,undef,undef,undef,undef,.bool false,.bool false,int i64 (i:Int),pointer (some ⟨q5,2,none⟩),.slice (some ⟨bb,bo,none⟩) bn bp,int i64 (b:Int),pointer (some ⟨bb,bo+b * 5,none⟩),pointer (some ⟨bb,bo+b * 5,none⟩),.slice ca i cp,int i64 (i:Int),.bool true,.bool true,agg #[int i64 ff.sig,.slice ra rn rp,.slice (some ⟨bb,bo,none⟩) bn bp],pointer (some ⟨q5,2,none⟩),.slice (some ⟨bb,bo,none⟩) bn bp,int i64 (b:Int),pointer (some ⟨bb,bo+b * 5,none⟩),agg #[.slice ca i cp,int i64 fi,int i64 re,int i64 tt,int i64 el],.bool true,.bool false,.bool false,.bool false] (by kernel_rfl) (by rfl) (by kernel_rfl) (zc.refl _ _) (fun A hA=> ?_);simp only[zv,Act.put,sTA,sC0,sCS] at hA;subst hA;refine ⟨gR (gR (gY (fun _ k9=>ZM (za k9 f2) rfl rfl) (gR (gY (fun _ _=>ZZ rfl rfl rfl hlt_b) (gR (gY (fun _ k9=>Zu (za k9 g0) rfl rfl) (gY (fun _ _=>Z4 rfl rfl) (gY (fun _ _=>zbs rfl rfl rfl (decide_eq_false (by omega))) (gR (gP (gP (gP (gP (gP (gP (gP (gP (gP (gP (gP (gP (gP (gR (gR (gR (gR (gY (fun _ k9=>ZM (za k9 f2) rfl rfl) (gR (gY (fun _ _=>ZZ rfl rfl rfl hlt_b) (gR (gY (fun _ k9=>Zu (za k9 g0) rfl rfl) (gY (fun _ _=>Z4 rfl rfl) (gY (fun _ _=>qt rfl rfl rfl hII) (gR (gY (fun _ k9=>qK (za k9 f0) (za k9 f1) (za k9 f2) rfl rfl) (gR (gY (fun _ k9=>ZM (za k9 f2) rfl rfl) (gR (gY (fun _ _=>ZZ rfl rfl rfl hlt_b) (gY (fun _ k9=>zmr (za k9 g0) (za k9 g1) (za k9 g2) (za k9 g3) (za k9 g4) rfl rfl) (zk.cons (zn (by rfl) 111 #[agg #[int i64 ff.sig,.slice ra rn rp,.slice (some ⟨bb,bo,none⟩) bn bp],agg #[.slice ca i cp,int i64 fi,int i64 re,int i64 tt,int i64 el]] (fun w=>zu rfl rfl rfl rfl (Jt _ _ w)) (fun w9 k9=>HC.o w9)) (gR (gR (gR (zk.nil))))))))))))))))))))))))))))))))))))))))))))),fun w8 k8=> ?_⟩;go_wp2_with fail;go_roundw
    case rel=>exact ⟨i+1,by omega,by go_num,hid (HK8.o.quiet k8),HAL9⟩
    case measure=>first | (simp[intOf];done) | (simp[intOf];omega)
   | false=>as_aux_lemma=>
    have HQ:Box (zB P=some ((k:Int),(b:Int),(i:Int))):=hid (HNK.o _ (HBAD.o HHT.o b i hbf.o (by rw[HCN.o];exact Nat.le_refl _) HAL3.o HPT.o));refine zm (W0:=wr) 331 [int i64 (i:Int),pointer (some ⟨q5,2,none⟩),.slice (some ⟨bb,bo,none⟩) bn bp,int i64 (b:Int),pointer (some ⟨bb,bo+b * 5,none⟩),pointer (some ⟨bb,bo+b * 5,none⟩),.slice ca i cp,int i64 (i:Int),.bool false,.bool false,undef,undef,undef,undef,undef,undef,undef,undef,undef,undef,undef,undef,undef,.bool false,.bool false,int i64 (i:Int),pointer (some ⟨q5,2,none⟩),.slice (some ⟨bb,bo,none⟩) bn bp,int i64 (b:Int),pointer (some ⟨bb,bo+b * 5,none⟩),pointer (some ⟨bb,bo+b * 5,none⟩),.slice ca i cp,int i64 (i:Int),.bool true,.bool true,agg #[int i64 ff.sig,.slice ra rn rp,.slice (some ⟨bb,bo,none⟩) bn bp],pointer (some ⟨q5,2,none⟩),.slice (some ⟨bb,bo,none⟩) bn bp,int i64 (b:Int),pointer (some ⟨bb,bo+b * 5,none⟩),agg #[.slice ca i cp,int i64 fi,int i64 re,int i64 tt,int i64 el],.bool false,.bool true,.bool true,.bool true] (by kernel_rfl) (by rfl) (by kernel_rfl) (zc.refl _ _) (fun A hA=> ?_);simp only[zv,Act.put,sTA,sC0,sCS] at hA;subst hA;refine ⟨gR (gR (gY (fun _ k9=>ZM (za k9 f2) rfl rfl) (gR (gY (fun _ _=>ZZ rfl rfl rfl hlt_b) (gR (gY (fun _ k9=>Zu (za k9 g0) rfl rfl) (gY (fun _ _=>Z4 rfl rfl) (gY (fun _ _=>zbs rfl rfl rfl (decide_eq_false (by omega))) (gR (gP (gP (gP (gP (gP (gP (gP (gP (gP (gP (gP (gP (gP (gR (gR (gR (gR (gY (fun _ k9=>ZM (za k9 f2) rfl rfl) (gR (gY (fun _ _=>ZZ rfl rfl rfl hlt_b) (gR (gY (fun _ k9=>Zu (za k9 g0) rfl rfl) (gY (fun _ _=>Z4 rfl rfl) (gY (fun _ _=>qt rfl rfl rfl hII) (gR (gY (fun _ k9=>qK (za k9 f0) (za k9 f1) (za k9 f2) rfl rfl) (gR (gY (fun _ k9=>ZM (za k9 f2) rfl rfl) (gR (gY (fun _ _=>ZZ rfl rfl rfl hlt_b) (gY (fun _ k9=>zmr (za k9 g0) (za k9 g1) (za k9 g2) (za k9 g3) (za k9 g4) rfl rfl) (zk.cons (zn (by rfl) 111 #[agg #[int i64 ff.sig,.slice ra rn rp,.slice (some ⟨bb,bo,none⟩) bn bp],agg #[.slice ca i cp,int i64 fi,int i64 re,int i64 tt,int i64 el]] (fun w=>zu rfl rfl rfl rfl (Jt _ _ w)) (fun w9 k9=>HC.o w9)) (gR (gR (gR (zk.nil))))))))))))))))))))))))))))))))))))))))))))),fun w8 k8=> ?_⟩;have hb6:=ze HN.o (KA.o.quiet (HK8.o.quiet k8));have K6:=hid (KA.o.quiet (HK8.o.quiet k8));have y0:=zi hb6 0;have y1:=zi hb6 1;have y2:=zi hb6 2;have x0:=zd hb6 0;have x1:=zd hb6 1;have x2:=zd hb6 2;have HB6:=hid hb6;clear hb6;go_wp2_with fail;have h3:=jZ HB6.o (int i64 (k:Int)) (int i64 (b:Int)) (int i64 (i:Int));have e0:=zd h3 0;have e1:=zd h3 1;have e2:=zd h3 2;exact bodyPost_ret (v:=.tuple #[agg #[int i64 (k:Int),int i64 (b:Int),int i64 (i:Int)],.bool false]) (by simp[results,Tryz.results76,go_sem,e0,e1,e2]) rfl (jW.no HQ.o (FIN.o _ _ _ _ K6.o))
  obtain rfl:b=bn:=by omega
  have HQ:=hid (HGOOD.o HHT.o (HAL.o.cast (by rw[BN.o])));go_wp2_with fail;go_roundw
  case rel=>exact ⟨k+1,by omega,by go_num,hid (KA.o.quiet HK7.o),hid fun j hj=>by
   by_cases e:j<k
   ·exact HB.o j e
   ·obtain rfl:j=k:=by omega
    exact HQ.o⟩
  case measure=>simp[intOf];omega
 obtain rfl:n4=k:=by omega
 have HE:Box (zB P=if inB P.main n4 then none else some (-1,0,0)):=hid (by
  have:=HEND.o (by rw[← N4.o];exact HB.o);rw[← N4.o] at this
  exact this)
 have c5:=C5.o _ HK5.o;have HC:=hid (HIN.o P.main n4);clear HB hlt hk;generalize inB P.main n4=mb at *;go_upto_region 54 with fail;have D4:Box (∀ w',zc [] w w'→w'.cell? ⟨pb,po+4,none⟩=some (.slice a4 n4 p4)):=D4a;have D5:Box (∀ w',zc [] w w'→w'.cell? ⟨pb,po+5,none⟩=some (int i64 P.main)):=D5a;refine jy (fun w'=>zc [] w w') (ptE q) 331 [agg #[int i64 (-1),int i64 0,int i64 0],pointer (some ⟨pb,po,none⟩),pointer (some ⟨pb,po,none⟩),pointer (some ⟨pb,po+5,none⟩),int i64 P.main,pointer (some ⟨pb,po,none⟩),pointer (some ⟨pb,po,none⟩),pointer (some ⟨pb,po+4,none⟩),.slice a4 n4 p4,int i64 (n4:Int),.bool mb,undef,.bool mb] (by kernel_rfl) (by rfl) (by kernel_rfl) ((HK.o.quiet HK5.o).quiet (zc.drew [] _)) (ptE.start (ze HN.o (HK5.o.quiet (zc.drew [] _)))) (fun A hA=> ?_);simp only[zv,Act.put,sTA,sC0,sCS] at hA;subst hA;refine ⟨zC.cons (Qf (by rfl) 75 #[] (fun w=>zdY rfl rfl (Z9 w)) (fun l w9 _ hs9 he9=>(zV w9).mono (fun e w8 h8=>⟨h8.1,hs9.quiet h8.2,(he9.quiet h8.2).keep (by decide)⟩))) (gER (gER (gER (gEY (fun w9 k9=>zS (D5.o w9 k9) rfl rfl) (gER (gER (gER (gEY (fun w9 k9=>zhs (D4.o w9 k9) rfl rfl) (gEY (fun _ _=>zkb rfl rfl) (zC.cons (Qf (by rfl) 109 #[int i64 P.main,int i64 (n4:Int)] (fun w=>zu rfl rfl rfl rfl (ziA _ _ w)) (fun l w9 _ hs9 he9=>(HC.o w9).mono (fun e w8 h8=>⟨h8.1,by rw[h8.2];exact hs9,by rw[h8.2];exact he9.keep (by decide)⟩))) (zC.cons (Qc (by rfl) (fun l w9 hi9 hs9 he9=>⟨_,(he9.put hi9 rfl rfl rfl).1,FIN2.o _ _ _ _ hs9,he9.put2 hi9⟩)) (gER (zC.nil))))))))))))),fun l w8 hl8 k8 h8=> ?_⟩;have hbit:l.getD 11 false=true:=hl8 11 (by decide);have h9:=h8.all hbit;have K8:=hid k8;have H9:=hid h9;clear h8 h9 hbit hl8 k8;cases mb with
 | true=>
  have HQ:Box (zB P=none):=hid (by rw[HE.o];rfl);go_wp2_with fail;have e0:=zd H9.o 0;have e1:=zd H9.o 1;have e2:=zd H9.o 2;exact bodyPost_ret (v:=.tuple #[agg #[int i64 (-1),int i64 0,int i64 0],.bool true]) (by simp[results,Tryz.results76,go_sem,e0,e1,e2]) rfl (jW.yes HQ.o K8.o)
 | false=>
  have HQ:Box (zB P=some (-1,0,0)):=hid (by rw[HE.o];rfl);go_wp2_with fail;have e0:=zd H9.o 0;have e1:=zd H9.o 1;have e2:=zd H9.o 2;exact bodyPost_ret (v:=.tuple #[agg #[int i64 (-1),int i64 0,int i64 0],.bool false]) (by simp[results,Tryz.results76,go_sem,e0,e1,e2]) rfl (jW.no HQ.o K8.o)
end Go.Proofs.YthflgjkmbakedaaGreatDoor
