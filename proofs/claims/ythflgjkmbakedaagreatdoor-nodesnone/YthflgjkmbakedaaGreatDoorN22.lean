import Derived.Laws.IdiomCopy
import Derived.Deep.Slices
import Derived.SizedLaws
import Derived.Shelf.Strconv.Itoa3
import Derived.Deep.MidRow
import Derived.Great.BuildSlice
import Derived.Deep.WholeRow
import Derived.Lib.SliceRun
import Derived.Test.YthflgjkmbakedaaGreatDoorN21

namespace Go.Proofs.YthflgjkmbakedaaGreatDoor
open Go.RowKit
open Go.Value (int pointer agg)
open Go.IntKind (i64)
set_option maxHeartbeats 8000000
set_option maxRecDepth 20000
variable {B b c f gb k1 k2 n p1 p2 par q r:Nat}{F:Fu8}{P:Pr8}{T:TypeId}{a:Option Addr}{v:Value}{w wr wy:World}{xs:List Value}
theorem zbD{s:Nat→Bool}(hs:zy w b s)(hf:Fit s){l:List Int}(c:Nat)(hl:zw w a l)(hn:l.length≤2000000):
  Calls Tryz.prog 212 #[pointer (some ⟨b,0,none⟩),.slice a l.length c] w fun e w'=>e=.returned (.bool (l.all (jP s)))∧∃ m,w'=w.drewN m:=by
 have HH:=hid fun (z:Int) (m:Nat)=>jK b s z (w.drewN m) (hs.kept (za.drewN [] w m) (by simp)) hf;have HL:=hid hl;clear hl hs hf;obtain ⟨n,hln⟩:∃ n,l.length=n:=⟨_,rfl⟩;have HN:=hid hln;rw[hln] at hn ⊢;clear hln;go_enter Tryz.func212,Tryz.ntmps212;go_wp2_with fail
 go_loopw [9] (fun i wr=>∃ k m:Nat,k≤n∧i=int i64 (k:Int)∧wr=w.drewN m∧Box ((l.take k).all (jP s)=true)) (fun i _=>n - (intOf i).toNat)
 case atStart=>exact ⟨0,0,by omega,rfl,rfl,hid (by simp)⟩
 case round=>
  obtain ⟨k,m,hk,rfl,rfl,HA⟩:=hrel;by_cases hlt:k<n
  ·have hlt':(k:Int)<(n:Int):=by omega
   have hlt2:k<l.length:=by rw[HN.o];exact hlt
   rcases HL.o with h0 | ⟨bz,oz,rfl,hcz⟩
   ·exfalso
    rw[h0] at hlt2;simp at hlt2
   have hc:(w.drewN m).cell? ⟨bz,oz+k,none⟩=some (int i64 (l.getD k 0)):=hcz k hlt2;have HTK:=hid (jn l k 0 hlt2);have HM:=hid (QP l k 0 hlt2);obtain ⟨z,hz⟩:∃ z,l.getD k 0=z:=⟨_,rfl⟩;rw[hz] at hc HTK HM;clear hz hlt2 hcz;have HZ:=hid (HH.o z m);cases hb:jP s z with
   | true=>
    rw[hb] at HZ;have HB:=hid hb;clear hb;go_wp2_with (go_at_call 134;refine HZ.o.mono ?_;rintro e w3 ⟨rfl,m3,rfl⟩);go_roundw
    case rel=>exact ⟨k+1,m+m3,by omega,by go_num,rfl,hid (by rw[HTK.o,List.all_append,HA.o];simp[HB.o])⟩
    case measure=>simp[intOf];omega
   | false=>
    rw[hb] at HZ;have HB:Box (l.all (jP s)=false):=hid (by rw[List.all_eq_false];exact ⟨z,HM.o,by simp[hb]⟩);clear hb;go_wp2_with (go_at_call 134;refine HZ.o.mono ?_;rintro e w3 ⟨rfl,m3,rfl⟩);go_ret;exact ⟨by rw[HB.o];rfl,m+m3,rfl⟩
  ·obtain rfl:k=n:=by omega
   rw[← HN.o,List.take_length] at HA;go_wp2;go_ret;exact ⟨by rw[HA.o];rfl,m,rfl⟩
def jH(x:Bl8)(s:Nat→Bool)(k:Nat):Bool:=
 if k<x.code.length then !((zW (qm x k)).all (jP (dfS (x.code.take k) s))) else decide (x.fin=2∨x.fin=3) && !jP (dfS x.code s) x.reg
def QT(x:Bl8)(s:Nat→Bool)(b:Nat)(w:World)(e:Ending)(w':World):Prop:=
 ((∃ k:Nat,k≤x.code.length∧e=.returned (int i64 (k:Int))∧jH x s k=true∧∀ j,j<k→jH x s j=false)∨(e=.returned (int i64 (-1))∧∀ k,k≤x.code.length→jH x s k=false))∧za [b] w w'
theorem zeO{x:Bl8}{s:Nat→Bool}{k:Nat}(h:k<x.code.length):jH x s k= !((zW (qm x k)).all (jP (dfS (x.code.take k) s))):=by unfold jH;rw[if_pos h]
theorem zcY(x:Bl8)(s:Nat→Bool):jH x s x.code.length=(decide (x.fin=2∨x.fin=3) && !jP (dfS x.code s) x.reg):=by unfold jH;rw[if_neg (by omega)]
theorem QH{w0:World}{bb bo:Nat}{x:Bl8}(h:BlC w0 bb bo x)(k0:za [] w0 w)(hl:x.code.length≤1000000)(hfew:∀ k,k<x.code.length→(qm x k).args.length≤1000){s:Nat→Bool}(hs:zy w b s)(hf:Fit s)(hb:w0.heap.size≤b):
  Calls Tryz.prog 137 #[pointer (some ⟨bb,bo,none⟩),pointer (some ⟨b,0,none⟩)] w (QT x s b w):=by
 obtain ⟨ca,cp,c0,hrows, -⟩:=h.c0;have C0:Box (∀ w',za [] w0 w'→w'.cell? ⟨bb,bo,none⟩=some (.slice ca x.code.length cp)∧w'.cell? ⟨bb,bo+1,none⟩=some (int i64 x.fin)∧w'.cell? ⟨bb,bo+2,none⟩=some (int i64 x.reg)):=hid fun w' k=>⟨zb k c0,zb k h.c1.1,zb k h.c2.1⟩;have HR:=hid hrows;have HS0:=hid hs;have HK0:=hid k0;have HFEW:=hid hfew;have HBB:Box (∀ y∈[b],w0.heap.size≤y):=hid fun y hy=>by simp at hy;omega
 have HFT:=hid fun (k:Nat)=>Q1 (x.code.take k) s hf;clear h c0 hrows hs k0 hfew hf hb;obtain ⟨L,hL⟩:∃ L,x.code.length=L:=⟨_,rfl⟩;rw[hL] at C0 hl;have HL:=hid hL;clear hL;obtain ⟨cc, -, -⟩:=C0.o _ HK0.o;go_enter Tryz.func137,Tryz.ntmps137;go_wp2_with fail;clear cc
 go_loopw [14] (fun i wr=>∃ k:Nat,k≤L∧i=int i64 (k:Int)∧Box (zy wr b (dfS (x.code.take k) s))∧Box (za [b] w wr)∧Box (∀ j,j<k→jH x s j=false)) (fun i _=>L - (intOf i).toNat)
 case atStart=>exact ⟨0,by omega,rfl,by rw[List.take_zero];exact HS0,hid (za.refl _ _),hid (fun j hj=>by omega)⟩
 case round=>
  clear HS0;obtain ⟨k,hk,rfl,HS,HK,HJ⟩:=hrel;have HKW:=hid (HK0.o.fresh HK.o HBB.o);by_cases hlt:k<L
  ·have hlt':(k:Int)<(L:Int):=by omega
   have hlt2:k<x.code.length:=by rw[HL.o];exact hlt
   have HTK:=hid (jn x.code k ⟨0,0,0,0,0,[]⟩ hlt2);have HBA:=hid (zeO (s:=s) hlt2);have hfw:=HFEW.o k hlt2;obtain ⟨ib,io,rfl,hin⟩:=(HR.o.quiet InC.stays HKW.o).at (j:=k) (y:=qm x k) (zi hlt2);have HTK2:Box (x.code.take (k+1)=x.code.take k ++ [qm x k]):=HTK;clear hlt2 HTK;obtain ⟨i,hi⟩:∃ i,qm x k=i:=⟨_,rfl⟩;rw[hi] at hin HTK2 HBA hfw;clear hi;obtain ⟨aa,ap,h5,hz5, -⟩:=hin.c5;have h0:=hin.c0.1;have h1:=hin.c1.1;have h2:=hin.c2.1;have h3:=hin.c3.1;have h4:=hin.c4.1;clear hin;have ka:=za.alloc [] wr (.cells #[int i64 i.op,int i64 i.dst,int i64 i.a,int i64 i.b,int i64 i.n,.slice aa i.args.length ap] 54);have hnw:=zd wr (.cells #[int i64 i.op,int i64 i.dst,int i64 i.a,int i64 i.b,int i64 i.n,.slice aa i.args.length ap] 54);have hz:=qT hz5;have HU:=hid (Q2 i aa ap _ (hz.kept ka (fun _ _ _=>by simp)) (by omega));have HD:=hid fun (w':World)=>QG i (.slice aa i.args.length ap) w';have HLU:Box ((zW i).length≤2000000):=hid (by have:=ZU i;omega);have HS2:=hid (HS.o.kept ka (by simp));have HK2:=hid (HK.o.quiet ka);have HNW:=hid hnw;have HSN:=hid (zaV (x.code.take k) s i);rw[← HTK2.o] at HSN;have HF:=hid (HFT.o k);unfold zt at HU HD;unfold ZW at HD;clear ka HS HK HTK2 hz hz5 hnw;generalize hal:i.args.length=al at *;clear hal;generalize hs1:dfS (x.code.take k) s=s1 at *;clear hs1;go_upto_region 4 with fail;generalize wr.alloc (.cells #[int i64 i.op,int i64 i.dst,int i64 i.a,int i64 i.b,int i64 i.n,.slice aa al ap] 54)=wa at *;generalize hws:wr.heap.size=u at *;clear hws;have e0:=zc HNW.o 0;have e1:=zc HNW.o 1;have e2:=zc HNW.o 2;have e3:=zc HNW.o 3;have e4:=zc HNW.o 4;have e5:=zc HNW.o 5;have HHA:=hid fun (a:Option Addr) (c:Nat) (w':World) (h':zy w' b s1) (hz:zw w' a (zW i))=>zbD h' HF.o c hz HLU.o;have HNE:Box (∀ w',za [] wa w'→w'.heap[u]? = some (.cells #[int i64 i.op,int i64 i.dst,int i64 i.a,int i64 i.b,int i64 i.n,.slice aa al ap] 54 (0,0))):=hid fun w' k'=>ze HNW.o k';cases hall:(zW i).all (jP s1) with
   | false=>
    rw[hall] at HBA HHA
    go_wp2_with (first
     | (go_at_call 213;refine HU.o.mono ?_;rintro e w3 ⟨a3,c3,rfl,h3,k3⟩)
     | (go_at_call 212;refine (HHA.o a3 c3 _ (HS2.o.kept k3 (by simp)) h3).mono ?_;rintro e w4 ⟨rfl,m4,rfl⟩))
    go_ret;exact ⟨.inl ⟨k,by rw[HL.o];omega,rfl,HBA.o,HJ.o⟩,(HK2.o.quiet k3).quiet (za.drewN [] _ _)⟩
   | true=>
    rw[hall] at HBA HHA;have HA:=hid fun (w':World) (h':zy w' b s1)=>QS b s1 i.dst w' h' HF.o;cases hd:zK i with
    | true=>
     rw[hd] at HD HSN;rw[if_pos rfl] at HD HSN
     go_wp2_with (first
      | (go_at_call 213;refine HU.o.mono ?_;rintro e w3 ⟨a3,c3,rfl,h3,k3⟩)
      | (go_at_call 212;refine (HHA.o a3 c3 _ (HS2.o.kept k3 (by simp)) h3).mono ?_;rintro e w4 ⟨rfl,m4,rfl⟩;have k4:=k3.quiet (za.drewN [] w3 m4);have hh:=HNE.o _ k4;have q0:=zc hh 0;have q1:=zc hh 1;have q2:=zc hh 2;have q3:=zc hh 3;have q4:=zc hh 4;have q5:=zc hh 5)
      | (go_at_call 214;refine (HD.o _).mono ?_;rintro e w5 ⟨rfl,k5⟩;have k6:=k4.quiet k5)
      | (go_at_call 215;refine (HA.o _ (HS2.o.kept k6 (by simp))).mono ?_;rintro e w7 ⟨rfl,h7,k7⟩))
     go_roundw
     case rel=>exact ⟨k+1,by omega,by go_num,hid (by rw[HSN.o];exact h7),hid ((HK2.o.quiet k6).step k7),hid (fun j hj=>by
      by_cases e:j=k
      ·subst e;exact HBA.o
      ·exact HJ.o j (by omega))⟩
     case measure=>simp[intOf];omega
    | false=>
     rw[hd] at HD HSN;rw[if_neg (by decide)] at HD HSN
     go_wp2_with (first
      | (go_at_call 213;refine HU.o.mono ?_;rintro e w3 ⟨a3,c3,rfl,h3,k3⟩)
      | (go_at_call 212;refine (HHA.o a3 c3 _ (HS2.o.kept k3 (by simp)) h3).mono ?_;rintro e w4 ⟨rfl,m4,rfl⟩;have k4:=k3.quiet (za.drewN [] w3 m4);have hh:=HNE.o _ k4;have q0:=zc hh 0;have q1:=zc hh 1;have q2:=zc hh 2;have q3:=zc hh 3;have q4:=zc hh 4;have q5:=zc hh 5)
      | (go_at_call 214;refine (HD.o _).mono ?_;rintro e w5 ⟨rfl,k5⟩;have k6:=k4.quiet k5))
     go_roundw
     case rel=>exact ⟨k+1,by omega,by go_num,hid (by rw[HSN.o];exact HS2.o.kept k6 (by simp)),hid (HK2.o.quiet k6),hid (fun j hj=>by
      by_cases e:j=k
      ·subst e;exact HBA.o
      ·exact HJ.o j (by omega))⟩
     case measure=>simp[intOf];omega
  ·obtain rfl:k=L:=by omega
   have HBE:=hid (zcY x s);have htk:x.code.take k=x.code:=by rw[← HL.o,List.take_length]
   rw[htk] at HS;rw[HL.o] at HBE;have HF:Box (Fit (dfS x.code s)):=hid (by have:=HFT.o k;rw[htk] at this;exact this);have HH:=hid fun (z:Int) (w':World) (h':zy w' b (dfS x.code s))=>jK b _ z w' h' HF.o;obtain ⟨q0,q1,q2⟩:=C0.o _ HKW.o;clear htk;by_cases f2:x.fin=2
   ·have HFI:Box (x.fin=2∨x.fin=3):=hid (.inl f2)
    rw[f2] at q1;clear f2;have HZ:=hid (HH.o x.reg wr HS.o);cases hz:jP (dfS x.code s) x.reg with
    | true=>
     rw[hz] at HZ HBE;go_wp2_with (go_at_call 134;refine HZ.o.mono ?_;rintro e w3 ⟨rfl,m3,rfl⟩);go_ret
     exact ⟨.inr ⟨rfl,fun j hj=>by
      by_cases e:j=k
      ·subst e;rw[HBE.o];simp
      ·exact HJ.o j (by rw[HL.o] at hj;omega)⟩,HK.o.quiet (za.drewN [] _ _)⟩
    | false=>
     rw[hz] at HZ HBE;go_wp2_with (go_at_call 134;refine HZ.o.mono ?_;rintro e w3 ⟨rfl,m3,rfl⟩;have q0':(wr.drewN m3).cell? ⟨bb,bo,none⟩=some (.slice ca k cp):=q0);go_ret;exact ⟨.inl ⟨k,by rw[HL.o];omega,rfl,by rw[HBE.o];simp[HFI.o],HJ.o⟩,HK.o.quiet (za.drewN [] _ _)⟩
   by_cases f3:x.fin=3
   ·have HFI:Box (x.fin=2∨x.fin=3):=hid (.inr f3)
    rw[f3] at q1;clear f2 f3;have HZ:=hid (HH.o x.reg wr HS.o);cases hz:jP (dfS x.code s) x.reg with
    | true=>
     rw[hz] at HZ HBE;go_wp2_with (go_at_call 134;refine HZ.o.mono ?_;rintro e w3 ⟨rfl,m3,rfl⟩);go_ret
     exact ⟨.inr ⟨rfl,fun j hj=>by
      by_cases e:j=k
      ·subst e;rw[HBE.o];simp
      ·exact HJ.o j (by rw[HL.o] at hj;omega)⟩,HK.o.quiet (za.drewN [] _ _)⟩
    | false=>
     rw[hz] at HZ HBE;go_wp2_with (go_at_call 134;refine HZ.o.mono ?_;rintro e w3 ⟨rfl,m3,rfl⟩;have q0':(wr.drewN m3).cell? ⟨bb,bo,none⟩=some (.slice ca k cp):=q0);go_ret;exact ⟨.inl ⟨k,by rw[HL.o];omega,rfl,by rw[HBE.o];simp[HFI.o],HJ.o⟩,HK.o.quiet (za.drewN [] _ _)⟩
   have HFI:Box (¬ (x.fin=2∨x.fin=3)):=hid (fun h=>h.elim f2 f3);have o2:(x.fin == 2)=false:=by simpa using f2
   have o3:(x.fin == 3)=false:=by simpa using f3
   clear f2 f3;go_wp2;go_ret
   exact ⟨.inr ⟨rfl,fun j hj=>by
    by_cases e:j=k
    ·subst e;rw[HBE.o];simp[HFI.o]
    ·exact HJ.o j (by rw[HL.o] at hj;omega)⟩,HK.o⟩
def qB(F:Fu8)(r:Nat):Nat→Bool:=rch (jh (zr F) (fun b=>dfS (zq F b).code zC) r) [0]
def inK(F:Fu8)(par r b:Nat):Nat→Bool:=fun m=>decide (m<F.regs.length) && !(decide (par≤m) && (decide (m<r) && qB F m b))
def inS(P:Pr8)(F:Fu8)(b:Nat):Nat→Bool:=fun m=>decide (m<F.regs.length) && !(decide (zg0 P F≤m) && qB F m b)
theorem zd4(h:F.regs.length≤5000)(par r b:Nat):Fit (inK F par r b):=fun n hn=>by
 unfold inK;rw[decide_eq_false (by omega)];rfl
theorem zdJ(F:Fu8)(par b:Nat):inK F par par b=zbJ F.regs.length:=by
 funext m
 unfold inK zbJ;by_cases h:m<F.regs.length
 ·by_cases h2:par≤m
  ·have h3:¬ m<par:=by omega
   simp[h,h3]
  ·simp[h,h2]
 ·simp[h]
theorem zhv(h:F.regs.length≤r)(b:Nat):inK F (zg0 P F) r b=inS P F b:=by
 funext m
 unfold inK inS;by_cases h1:m<F.regs.length
 ·have h2:m<r:=by omega
  simp[h2]
 ·simp[h1]
def inC(F:Fu8)(par r c b:Nat):Nat→Bool:=if b<c∧qB F r b=true then zek (inK F par r b) (r:Int) else inK F par r b
theorem zgW(h:F.regs.length≤5000)(par r c b:Nat):Fit (inC F par r c b):=by
 unfold inC;split
 ·intro n hn
  unfold zek;rw[zd4 h par r b n hn];rfl
 ·exact zd4 h par r b
theorem zey(F:Fu8)(par r b:Nat):inC F par r 0 b=inK F par r b:=by unfold inC;rw[if_neg (by omega)]
theorem zaX{c':Nat}(hc:c≤c')(h:∀ j,c≤j→j<c'→qB F r j=false):inC F par r c b=inC F par r c' b:=by
 unfold inC;by_cases h1:b<c∧qB F r b=true
 ·rw[if_pos h1,if_pos ⟨by omega,h1.2⟩]
 ·rw[if_neg h1]
  by_cases h2:b<c'∧qB F r b=true
  ·exfalso
   have:=h b (by
    rcases Nat.lt_or_ge b c with h3 | h3
    ·exact absurd ⟨h3,h2.2⟩ h1
    ·exact h3) h2.1
   rw[this] at h2;exact absurd h2.2 (by decide)
  ·rw[if_neg h2]
theorem zex(hr:par≤r)(h:b<c):inC F par r c b=inK F par (r+1) b:=by
 funext m
 unfold inC;by_cases h1:qB F r b=true
 ·rw[if_pos ⟨h,h1⟩]
  unfold zek inK;by_cases e:m=r
  ·subst e
   simp[h1,hr]
  ·have e1:¬ ((m:Int)=(r:Int)):=by omega
   have e2:decide (m<r+1)=decide (m<r):=by rw[decide_eq_decide];omega
   simp[e1,e2]
 ·rw[if_neg (fun h=>h1 h.2)]
  unfold inK;by_cases e:m=r
  ·subst e
   rw[Bool.not_eq_true] at h1;simp[h1]
  ·have e2:decide (m<r+1)=decide (m<r):=by rw[decide_eq_decide];omega
   rw[e2]
theorem zir(h:qB F r b=true)(j:Nat):(if j=b then zek (inC F par r b b) (r:Int) else inC F par r b j)=inC F par r (b+1) j:=by
 by_cases e:j=b
 ·subst e
  rw[if_pos rfl];unfold inC;rw[if_neg (by omega),if_pos ⟨by omega,h⟩]
 ·rw[if_neg e]
  unfold inC;by_cases c:j<b∧qB F r j=true
  ·rw[if_pos c,if_pos ⟨by omega,c.2⟩]
  ·rw[if_neg c,if_neg (fun h=>c ⟨by omega,h.2⟩)]
structure IM (w wr:World) (q p1 p2 n k1 k2:Nat) (d1 d2:Nat→Nat) (D1 D2:Nat→Nat→Bool) (gb:Nat) (a:Option Addr) (g:List (List Nat)) (B:Nat):Prop where
 h1:HS wr w.heap.size q p1 n k1 d1 D1
 h2:HS wr w.heap.size q p2 n k2 d2 D2
 cross:∀ i j,i<k1→j<k2→d1 i≠d2 j
 keep:za [] w wr
 box:zX wr gb (int i64 (n:Int)) (.slice a n n)
 gr:GAt wr B a g
theorem IM.quiet{d1 d2:Nat→Nat}{D1 D2:Nat→Nat→Bool}{g:List (List Nat)}(h:IM w wr q p1 p2 n k1 k2 d1 d2 D1 D2 gb a g B)(k:za [] wr wy):IM w wy q p1 p2 n k1 k2 d1 d2 D1 D2 gb a g B:=
 ⟨h.h1.quiet k,h.h2.quiet k,h.cross,h.keep.quiet k,h.box.kept k (by simp),h.gr.quiet k⟩
structure IL (w:World) (q p1 p2 gb B:Nat):Prop where
 l1:w.heap.size≤p1
 l2:w.heap.size≤p2
 q1:p1<q
 q2:p2<q
 ne:p1≠p2
 g1:gb≠p1
 g2:gb≠p2
 gq:gb<q
 b1:B≤p1
 b2:B≤p2
 bq:B≤q
theorem IM.put1{d1 d2:Nat→Nat}{D1 D2:Nat→Nat→Bool}{g:List (List Nat)}(h:IM w wr q p1 p2 n k1 k2 d1 d2 D1 D2 gb a g B)(L:IL w q p1 p2 gb B)(k:za [] wr wy){s:Nat→Bool}(hb:zy wy b s)(hq:q≤wr.heap.size)(hn:wr.heap.size≤b):
  IM w (wy.setCell ⟨p1,k1,none⟩ (pointer (some ⟨b,0,none⟩))) q p1 p2 n (k1+1) k2 (fun i=>if i=k1 then b else d1 i) d2 (fun i=>if i=k1 then s else D1 i) D2 gb a g B:=by
 have h':=h.quiet k;have kk:za [p1] wy (wy.setCell ⟨p1,k1,none⟩ (pointer (some ⟨b,0,none⟩))):=za.setCell _ _ _ _ (by simp);have o1:∀ i,i<k1→d1 i≠b:=fun i hi e=>by have:=(h.h1.set i hi).lt';omega
 have o2:∀ i,i<k2→d2 i≠b:=fun i hi e=>by have:=(h.h2.set i hi).lt';omega
 refine ⟨h'.h1.put L.q1 hb (by omega) o1,h'.h2.kept kk (by have:=L.ne;simp;omega) (fun i hi=>by have:=h.h2.new i hi;have:=L.q1;simp;omega),fun i j hi hj=> ?_,h'.keep.fresh kk (fun x hx=>by have:=L.l1;simp at hx;omega),h'.box.kept kk (by have:=L.g1;simp;omega),h'.gr.kept kk (fun x hx=>by have:=L.b1;simp at hx;omega)⟩;by_cases e:i=k1
 ·rw[if_pos e];exact fun e2=>o2 j hj e2.symm
 ·rw[if_neg e];exact h.cross i j (by omega) hj
theorem IM.put2{d1 d2:Nat→Nat}{D1 D2:Nat→Nat→Bool}{g:List (List Nat)}(h:IM w wr q p1 p2 n k1 k2 d1 d2 D1 D2 gb a g B)(L:IL w q p1 p2 gb B)(k:za [] wr wy){s:Nat→Bool}(hb:zy wy b s)(hq:q≤wr.heap.size)(hn:wr.heap.size≤b):
  IM w (wy.setCell ⟨p2,k2,none⟩ (pointer (some ⟨b,0,none⟩))) q p1 p2 n k1 (k2+1) d1 (fun i=>if i=k2 then b else d2 i) D1 (fun i=>if i=k2 then s else D2 i) gb a g B:=by
 have h':=h.quiet k;have kk:za [p2] wy (wy.setCell ⟨p2,k2,none⟩ (pointer (some ⟨b,0,none⟩))):=za.setCell _ _ _ _ (by simp);have o1:∀ i,i<k1→d1 i≠b:=fun i hi e=>by have:=(h.h1.set i hi).lt';omega
 have o2:∀ i,i<k2→d2 i≠b:=fun i hi e=>by have:=(h.h2.set i hi).lt';omega
 refine ⟨h'.h1.kept kk (by have:=L.ne;simp;omega) (fun i hi=>by have:=h.h1.new i hi;have:=L.q2;simp;omega),h'.h2.put L.q2 hb (by omega) o2,fun i j hi hj=> ?_,h'.keep.fresh kk (fun x hx=>by have:=L.l2;simp at hx;omega),h'.box.kept kk (by have:=L.g2;simp;omega),h'.gr.kept kk (fun x hx=>by have:=L.b2;simp at hx;omega)⟩;by_cases e:j=k2
 ·rw[if_pos e];exact o1 i hi
 ·rw[if_neg e];exact h.cross i j hi (by omega)
theorem IM.turn{d1 d2:Nat→Nat}{D1 D2:Nat→Nat→Bool}{g:List (List Nat)}(h:IM w wr q p1 p2 n k1 k2 d1 d2 D1 D2 gb a g B)(L:IL w q p1 p2 gb B){j:Nat}(hj:j<k1){s:Nat→Bool}(kk:za [d1 j] wr wy)(hs:zy wy (d1 j) s):
  IM w wy q p1 p2 n k1 k2 d1 d2 (fun i=>if i=j then s else D1 i) D2 gb a g B:=by
 have hn:=h.h1.new j hj;refine ⟨h.h1.turn L.q1 hj kk hs,h.h2.kept kk (by have:=L.q2;simp;omega) (fun i hi=>by have:=h.cross j i hj hi;simp;omega),h.cross,h.keep.fresh kk (fun x hx=>by have:=L.l1;have:=L.q1;simp at hx;omega),h.box.kept kk (by have:=L.gq;simp;omega),h.gr.kept kk (fun x hx=>by have:=L.bq;simp at hx;omega)⟩
theorem zct(hb:F.blocks.length≤600)(r m:Nat)(h:F.blocks.length≤m):qB F r m=false:=
 zg9 (zaP (ja hb) _ r).ok [0] m (by rw[qa,zS];exact h)
theorem zjz{k j:Nat}{v:Int}(hj:j<k)(h:v= -1∨∃ i:Nat,v=(i:Int)∧j<i∧i<k):(if intOf (int i64 v)<0 then 0 else k+1 - (intOf (int i64 v)).toNat)<(if intOf (int i64 (j:Int))<0 then 0 else k+1 - (intOf (int i64 (j:Int))).toNat):=by
 show (if v<0 then 0 else k+1 - v.toNat)<(if (j:Int)<0 then 0 else k+1 - (j:Int).toNat);rw[if_neg (by omega:¬ ((j:Int)<0))];rcases h with rfl | ⟨i,rfl,h1,h2⟩
 ·rw[if_pos (by omega)]
  omega
 ·rw[if_neg (by omega)]
  omega
def zcx(w:World)(P:Pr8)(F:Fu8)(e:Ending)(w':World):Prop:=∃ p d q,e=.returned (.slice (some ⟨p,0,none⟩) F.blocks.length F.blocks.length)∧HS w' w.heap.size q p F.blocks.length F.blocks.length d (inS P F)∧p<q∧w.heap.size≤p∧za [] w w'
theorem ziQ{pb po:Nat}(h:PrC w pb po P)(hT:jf w)(hf:f<P.funcs.length)(hb0:0<(zf P f).blocks.length)(hb:(zf P f).blocks.length≤600)(hr:(zf P f).regs.length≤1000)(hc:∀ b,(zq (zf P f) b).code.length≤1000000):
  Calls Tryz.prog 136 #[pointer (some ⟨pb,po,none⟩),int i64 (f:Int)] w (zcx w P (zf P f)):=by
 have HFL:=hid fun (w':World) (k:za [] w w')=>Q4 (PrC.stays _ _ _ _ _ k h) hf hb;obtain ⟨fa,fcp,H⟩:=h.fns;have h4:=H.cell;have C4:Box (∀ w',za [] w w'→w'.cell? ⟨pb,po+4,none⟩=some (.slice fa P.funcs.length fcp)):=hid fun w' k=>zb k h4;obtain ⟨fb,fo,rfl,hfu0⟩:=H.rows.at (zi (d:=⟨0,[],[]⟩) hf);have hfu:FuC w fb (fo+f * 3) (zf P f):=hfu0;obtain ⟨fb',fo',ba,bcp,e,BB⟩:=H.at hf;simp only[Option.some.injEq,Addr.mk.injEq,and_true] at e;obtain ⟨rfl,rfl⟩:=e;have h2:=BB.cell;have C2:Box (∀ w',za [] w w'→w'.cell? ⟨fb,fo+f * 3+2,none⟩=some (.slice ba (zf P f).blocks.length bcp)):=hid fun w' k=>zb k h2;have BA:Box (∀ b,b<(zf P f).blocks.length→∃ bb bo,ba=some ⟨bb,bo,none⟩∧∀ w',za [] w w'→Calls Tryz.prog 206 #[pointer (some ⟨bb,bo+b * 5,none⟩)] w' fun e w''=>∃ b',e=.returned (pointer (some ⟨b',0,none⟩))∧zy w'' b' (dfS (zq (zf P f) b).code zC)∧za [] w' w''∧w'.heap.size≤b'):=hid fun b hb=>by
  obtain ⟨bb,bo,e,hbl⟩:=BB.at hb;exact ⟨bb,bo,e,fun w' k=>zah (BlC.stays _ _ _ _ _ k hbl) (hc b)⟩
 have HRS:=hid fun (w':World) (k:za [] w w')=>QE (FuC.stays _ _ _ _ _ k hfu) (show (zf P f).regs.length≤5000 by omega);have HRG:=hid fun (w':World) (k:za [] w w')=>za5 (FuC.stays _ _ _ _ _ k hfu) (show (zf P f).regs.length≤5000 by omega);have HPA:=hid fun (w':World) (k:za [] w w')=>zbs (PrC.stays _ _ _ _ _ k h) (FuC.stays _ _ _ _ _ k hfu);have HTB:Box (∀ w',za [] w w'→jf w'):=hid fun w' k=>hT.kept k (by simp);have HSM:=hid (ja hb);have HBO:=hid (zct hb);have HMY:=hid fun (a:Option Addr) (cap B:Nat) (w':World) (hG:GAt w' B a (zr (zf P f)))=>QR (zr (zf P f)) HSM.o a cap B w' hG;rw[zS] at HFL HMY;unfold zcx;have HRK:=hid fun (par r c b:Nat)=>zgW (show (zf P f).regs.length≤5000 by omega) par r c b;clear h h4 hfu hfu0 BB H h2 hc hT;have gf:(f:Int)<(P.funcs.length:Int):=by omega
 generalize P.funcs.length=N at *;have HFN:=hid (zS (zf P f));generalize zf P f=F at *;generalize F.blocks.length=n at *;have hmk:=zgB n (by omega);have hb0':¬ ((n:Int)=0):=by omega
 have hbe:((n:Int) == 0)=false:=by simpa using hb0'
 go_enter Tryz.func136,Tryz.ntmps136;go_upto_region 2 with (go_at_call 131;refine (HFL.o _ (za.refl _ _)).mono ?_;rintro e w1 ⟨a,rfl,hg1,k1⟩)
 have ka:=za.alloc [] w1 (.cells #[int i64 (n:Int),.slice a n n] 195);have HBX:=hid (zX.new w1 (int i64 (n:Int)) (.slice a n n));have HGR:Box (GAt (w1.alloc (.cells #[int i64 (n:Int),.slice a n n] 195)) w1.heap.size a (zr F)):=hid (hg1.quiet ka);have HK1:=hid (k1.quiet ka);have HSZ:Box ((w1.alloc (.cells #[int i64 (n:Int),.slice a n n] 195)).heap.size=w1.heap.size+1):=hid (by simp);have HW1:=hid k1.size;clear ka hg1 k1 HFL;generalize w1.alloc (.cells #[int i64 (n:Int),.slice a n n] 195)=W1 at *;generalize w1.heap.size=gb at *;have c0:=HBX.o.c0;have c1:=HBX.o.c1;go_upto_region 4 with (go_at_call 132;refine (HMY.o a n gb _ HGR.o).mono ?_;rintro e w2 ⟨rfl,k2⟩;have HBX2:=hid (HBX.o.kept k2 (by simp));have d0:=HBX2.o.c0;have d1:=HBX2.o.c1;have d4:=C4.o _ (HK1.o.quiet k2))
 clear d1 c0 c1 HMY;have HK2:=hid (HK1.o.quiet k2);have HGR2:=hid (HGR.o.quiet k2);have HS2:Box (gb<w2.heap.size):=hid HBX2.o.lt;clear HBX HGR HK1 HSZ k2;have hm1:Box (∀ wa,za [] w2 wa→IM w ((wa.alloc (.cells (madeCells #[za8] n) 198)).alloc (.cells (madeCells #[za8] n) 198)) (wa.heap.size+2) wa.heap.size (wa.heap.size+1) n 0 0 (fun _=>0) (fun _=>0) (fun _=>zC) (fun _=>zC) gb a (zr F) gb):=hid fun wa ka=>by
  have k3:=za.alloc [] wa (.cells (madeCells #[za8] n) 198);have k4:=za.alloc [] (wa.alloc (.cells (madeCells #[za8] n) 198)) (.cells (madeCells #[za8] n) 198);have s1:=(HK2.o.quiet ka).size;have r1:=(zcZ wa n w.heap.size s1 (by unfold maxLen;omega)).kept k4 (by simp);have r2:=zcZ (wa.alloc (.cells (madeCells #[za8] n) 198)) n w.heap.size (by simp;omega) (by unfold maxLen;omega);rw[World.size_alloc] at r2;exact ⟨⟨r1,fun i hi=>by omega,fun i hi=>by omega,fun i j hi=>by omega⟩,⟨r2,fun i hi=>by omega,fun i hi=>by omega,fun i j hi=>by omega⟩,fun i j hi=>by omega,((HK2.o.quiet ka).quiet k3).quiet k4,((HBX2.o.kept ka (by simp)).kept k3 (by simp)).kept k4 (by simp),((HGR2.o.quiet ka).quiet k3).quiet k4⟩
 have hm2:Box (∀ wa,za [] w2 wa→IM w ((wa.alloc (.cells (madeCells #[za8] n) 198)).alloc (.cells (madeCells #[za8] n) 198)) (wa.heap.size+2) (wa.heap.size+1) wa.heap.size n 0 0 (fun _=>0) (fun _=>0) (fun _=>zC) (fun _=>zC) gb a (zr F) gb):=hid fun wa ka=>by
  have:=hm1.o wa ka;exact ⟨this.h2,this.h1,fun i j hi=>by omega,this.keep,this.box,this.gr⟩
 have d0a:=zb (za.alloc [] w2 (.cells (madeCells #[za8] n) 198)) d0;go_upto_region 5 with fail
 go_cut [7,8] (fun t7 t8 wz=>∃ p1 p2 q,t7=.slice (some ⟨p1,0,none⟩) n n∧t8=.slice (some ⟨p2,0,none⟩) n n∧Box (IM w wz q p1 p2 n 0 0 (fun _=>0) (fun _=>0) (fun _=>zC) (fun _=>zC) gb a (zr F) gb)∧Box (IL w q p1 p2 gb gb)∧Box (q≤wz.heap.size))
 case first=>
  go_region
  all_goals
   go_wp2_with fail;go_meet;have s1:=HK2.o.size;have s2:=HS2.o
   first
    | exact ⟨_,_,w2.heap.size+2,rfl,rfl,hid ((hm1.o w2 (za.refl _ _)).quiet (za.drew [] _)),hid ⟨by omega,by omega,by omega,by omega,by omega,by omega,by omega,by omega,by omega,by omega,by omega⟩,hid (by simp)⟩
    | exact ⟨_,_,w2.heap.size+2,rfl,rfl,hid ((hm2.o w2 (za.refl _ _)).quiet (za.drew [] _)),hid ⟨by omega,by omega,by omega,by omega,by omega,by omega,by omega,by omega,by omega,by omega,by omega⟩,hid (by simp)⟩
 case rest=>
  clear hm1 hm2 d0a d0 d4 HK2 HGR2 HS2 HBX2;obtain ⟨p1,p2,q,rfl,rfl,HM,HL,HQ⟩:=hcut;have c0:=HM.o.box.c0;go_wp2_with fail;clear c0
  go_loopw [38] (fun i wr=>∃ (k:Nat) (d1 d2:Nat→Nat),k≤n∧i=int i64 (k:Int)∧Box (IM w wr q p1 p2 n k k d1 d2 (fun _=>zbJ F.regs.length) (fun b=>dfS (zq F b).code zC) gb a (zr F) gb)∧Box (q≤wr.heap.size)) (fun i _=>n - (intOf i).toNat)
  case atStart=>exact ⟨0,_,_,by omega,rfl,hid ⟨HM.o.h1.congr (fun i hi=>by omega),HM.o.h2.congr (fun i hi=>by omega),HM.o.cross,HM.o.keep,HM.o.box,HM.o.gr⟩,HQ⟩
  case round=>
   clear HM HQ;obtain ⟨k,d1,d2,hk,rfl,HM,HQ⟩:=hrel;by_cases hlt:k<n
   ·have hlt':(k:Int)<(n:Int):=by omega
    obtain ⟨bb,bo,rfl,hdf⟩:=BA.o k hlt;have HDF:=hid hdf;clear hdf;have cz:=HM.o.h1.row.cell hlt;have fz:=HM.o.h1.row.frozen k;go_upto_region 9 with fail;go_upto_region 10 with (go_at_call 205;refine (HRS.o _ HM.o.keep).mono ?_;rintro e w5 ⟨b5,rfl,h5,k5,n5⟩;have cz':=zb k5 cz;have fz':=(HM.o.h1.row.kept k5 (by simp)).frozen k)
    have HM1:=hid (HM.o.put1 HL.o k5 h5 HQ.o n5);have HQ1:Box (q≤(w5.setCell ⟨p1,k,none⟩ (pointer (some ⟨b5,0,none⟩))).heap.size):=hid (by have:=HQ.o;have:=k5.size;simp[World.setCell];omega);clear HM HQ cz fz cz' fz' k5 n5 h5;generalize w5.setCell ⟨p1,k,none⟩ (pointer (some ⟨b5,0,none⟩))=w6 at *;have c2:=C2.o _ HM1.o.keep;have cz:=HM1.o.h2.row.cell hlt;have fz:=HM1.o.h2.row.frozen k;go_wp2_with (go_at_call 206;refine (HDF.o _ HM1.o.keep).mono ?_;rintro e w7 ⟨b7,rfl,h7,k7,n7⟩;have cz':=zb k7 cz;have fz':=(HM1.o.h2.row.kept k7 (by simp)).frozen k);have HM2:=hid (HM1.o.put2 HL.o k7 h7 HQ1.o n7);have HQ2:Box (q≤(w7.setCell ⟨p2,k,none⟩ (pointer (some ⟨b7,0,none⟩))).heap.size):=hid (by have:=HQ1.o;have:=k7.size;simp[World.setCell];omega);go_roundw
    case rel=>exact ⟨k+1,_,_,by omega,by go_num,hid ⟨HM2.o.h1.congr (fun i hi=>by split <;> rfl),HM2.o.h2.congr (fun i hi=>by
     split
     ·next e=>rw[e]
     ·rfl),HM2.o.cross,HM2.o.keep,HM2.o.box,HM2.o.gr⟩,HQ2⟩
    case measure=>simp[intOf];omega
   ·obtain rfl:k=n:=by omega
    clear HRS BA C2 C4;go_upto_region 13 with (go_at_call 207;refine (HPA.o _ HM.o.keep).mono ?_;rintro e w5 ⟨rfl,k5⟩)
    have HM0:Box (IM w w5 q p1 p2 k k k d1 d2 (inK F (zg0 P F) (zg0 P F)) (fun b=>dfS (zq F b).code zC) gb a (zr F) gb):=hid (by
     have h5:=HM.o.quiet k5
     exact ⟨h5.h1.congr (fun i _=>(zdJ F _ i).symm),h5.h2,h5.cross,h5.keep,h5.box,h5.gr⟩)
    have HQ0:Box (q≤w5.heap.size):=hid (Nat.le_trans HQ.o k5.size);have HEND:=hid fun (r b:Nat) (h:F.regs.length≤r)=>zhv (P:=P) h b;clear HM HQ k5 HPA;generalize zg0 P F=par at *;have HST:Box (∀ (w':World) (r:Nat) (D1:Nat→Nat→Bool),IM w w' q p1 p2 k k k d1 d2 D1 (fun b=>dfS (zq F b).code zC) gb a (zr F) gb→Calls Tryz.prog 209 #[agg #[int i64 (k:Int),.slice a k k],.slice (some ⟨p2,0,none⟩) k k,int i64 (r:Int)] w' fun e w''=>∃ a',e=.returned (agg #[int i64 (k:Int),.slice a' k k])∧GAt w'' w''.heap.size a' (jh (zr F) (fun b=>dfS (zq F b).code zC) r)∧za [] w' w''):=hid fun w' r D1 hM=>by
     have:=zal (zr F) HSM.o a k gb w' hM.gr (by have:=hM.box.lt;omega) (base:=w.heap.size) (p:=p2) (d:=d2) (D:=fun b=>dfS (zq F b).code zC) (by rw[HFN.o];exact hM.h2.ps) (fun i=>Q1 _ _ Zd) r;rw[qa,HFN.o] at this;exact this
    have HRE:Box (∀ (w':World) (r:Nat) (a':Option Addr),GAt w' w'.heap.size a' (jh (zr F) (fun b=>dfS (zq F b).code zC) r)→Calls Tryz.prog 133 #[agg #[int i64 (k:Int),.slice a' k k]] w' fun e w''=>∃ b,e=.returned (pointer (some ⟨b,0,none⟩))∧zy w'' b (qB F r)∧za [] w' w''∧w'.heap.size≤b):=hid fun w' r a' hG=>by
     have:=jM (jh (zr F) (fun b=>dfS (zq F b).code zC) r) (zaP HSM.o _ r) a' k w'.heap.size w' hG (Nat.le_refl _);rw[qa,HFN.o] at this;exact this
    have HBF:Box (∀ r,Fit (qB F r)):=hid fun r m hm=>HBO.o r m (by omega);obtain ⟨R,hR⟩:∃ R,F.regs.length=R:=⟨_,rfl⟩;rw[hR] at HRG hr HEND;clear hR HSM HFN
    go_loopw [10] (fun i wr=>∃ r:Nat,par≤r∧(r≤R∨r=par)∧i=int i64 (r:Int)∧Box (IM w wr q p1 p2 k k k d1 d2 (inK F par r) (fun b=>dfS (zq F b).code zC) gb a (zr F) gb)∧Box (q≤wr.heap.size)) (fun i _=>R - (intOf i).toNat)
    case atStart=>exact ⟨par,Nat.le_refl _,.inr rfl,rfl,HM0,HQ0⟩
    case round=>
     clear HM0 HQ0;obtain ⟨r,hpr,hrR,rfl,HM,HQ⟩:=hrel;by_cases hlt:r<R
     ·have hlt':(r:Int)<(R:Int):=by omega
      have c0:=HM.o.box.c0;have c1:=HM.o.box.c1
      go_upto_region 16 with (first
       | (go_at_call 208;refine (HRG.o _ HM.o.keep).mono ?_;rintro e w6 ⟨rfl,rfl⟩)
       | (go_at_call 209;refine (HST.o _ r _ HM.o).mono ?_;rintro e w6 ⟨a6,rfl,g6,k6⟩)
       | (go_at_call 133;refine (HRE.o _ r a6 g6).mono ?_;rintro e w7 ⟨b7,rfl,h7,k7,n7⟩))
      have HNE:Box (∀ i,i<k→d1 i≠b7):=hid fun i hi e=>by
       have:=(HM.o.h1.set i hi).lt';have:=k6.size;omega
      have HM7:=hid ((HM.o.quiet k6).quiet k7);have HQ7:Box (q≤w7.heap.size):=hid (Nat.le_trans HQ.o (Nat.le_trans k6.size k7.size));have H7:=hid h7;clear HM HQ c0 c1 g6 k6 h7 k7 n7 HST HRE HRG;have HFI:Box (∀ (w':World) (c:Nat),za [] w w'→zy w' b7 (qB F r)→Calls Tryz.prog 210 #[pointer (some ⟨b7,0,none⟩),int i64 (c:Int)] w' fun e w''=>∃ v:Int,e=.returned (int i64 v)∧((v= -1∧∀ m,c≤m→qB F r m=false)∨∃ j:Nat,v=(j:Int)∧c≤j∧j<k∧qB F r j=true∧∀ m,c≤m→m<j→qB F r m=false)∧∃ m,w''=w'.drewN m):=hid fun w' c kw hset=>by
       refine (zdZ b7 (qB F r) (c:Int) w' hset (HBF.o r) (HTB.o _ kw)).mono ?_;rintro e w'' ⟨rfl,m,rfl⟩;refine ⟨_,rfl,?_,m,rfl⟩;rcases jd (qB F r) (c:Int) with ⟨h1,h2⟩ | ⟨j,h1,h2,h3,h4,h5⟩
       ·refine .inl ⟨h1,fun m hm=> ?_⟩
        by_cases hk5:m<5000
        ·exact h2 m hk5 (by omega)
        ·exact HBF.o r m (by omega)
       ·refine .inr ⟨j,h1,by omega,?_,h4,fun m hm hj=>h5 m hj (by omega)⟩
        rcases Nat.lt_or_ge j k with h6 | h6
        ·exact h6
        ·rw[HBO.o r j h6] at h4
         cases h4
      go_wp2_with (go_at_call 210;refine (HFI.o _ 0 HM7.o.keep H7.o).mono ?_;rintro e w8 ⟨v8,rfl,hv8,m8,rfl⟩);have kd:=za.drewN [] w7 m8
      have HM8:Box (IM w (w7.drewN m8) q p1 p2 k k k d1 d2 (inC F par r 0) (fun b=>dfS (zq F b).code zC) gb a (zr F) gb):=hid (by
       have h5:=HM7.o.quiet kd
       exact ⟨h5.h1.congr (fun i _=>(zey F _ _ i).symm),h5.h2,h5.cross,h5.keep,h5.box,h5.gr⟩)
      have H8:=hid (H7.o.kept kd (by simp));have HQ8:Box (q≤(w7.drewN m8).heap.size):=hid HQ7.o;have HV8:=hid hv8;have hkk:(k:Int)≤600:=by omega
      clear HM7 H7 HQ7 kd hv8
      go_loopw [12] (fun i wr=>∃ (c:Nat) (v:Int),i=int i64 v∧c≤k∧Box ((v= -1∧∀ m,c≤m→qB F r m=false)∨∃ j:Nat,v=(j:Int)∧c≤j∧j<k∧qB F r j=true∧∀ m,c≤m→m<j→qB F r m=false)∧Box (IM w wr q p1 p2 k k k d1 d2 (inC F par r c) (fun b=>dfS (zq F b).code zC) gb a (zr F) gb)∧Box (zy wr b7 (qB F r))∧Box (q≤wr.heap.size)) (fun i _=>if intOf i<0 then 0 else k+1 - (intOf i).toNat)
      case atStart=>exact ⟨0,v8,rfl,by omega,HV8,HM8,H8,HQ8⟩
      case round=>
       clear HM8 H8 HQ8 HV8;obtain ⟨c,v,rfl,hc,HV,HM,H7,HQ⟩:=hrel;rcases HV.o with ⟨rfl,hno⟩ | ⟨j,rfl,hcj,hjk,hbj,hno⟩
       ·have HNO:=hid hno
        clear HV hno;go_wp2;go_roundw
        case rel=>exact ⟨r+1,by omega,.inl (by omega),by go_num,hid ⟨HM.o.h1.congr (fun i hi=>by
         rw[zaX (c':=k) hc (fun j h1 _=>HNO.o j h1)]
         exact zex hpr hi),HM.o.h2,HM.o.cross,HM.o.keep,HM.o.box,HM.o.gr⟩,HQ⟩
        case measure=>simp[intOf];omega
       ·have HJ:Box (IM w wr q p1 p2 k k k d1 d2 (inC F par r j) (fun b=>dfS (zq F b).code zC) gb a (zr F) gb):=hid ⟨HM.o.h1.congr (fun i hi=>zaX hcj hno),HM.o.h2,HM.o.cross,HM.o.keep,HM.o.box,HM.o.gr⟩
        have HB:=hid hbj;have hj0:(0:Int)≤(j:Int):=by omega
        have hjk':(j:Int)<(k:Int):=by omega
        have hj6:(j:Int)<600:=by omega
        have cz:=HJ.o.h1.row.cell hjk;unfold pv at cz;rw[if_pos hjk] at cz;have HRM:=hid (zgs (d1 j) (inC F par r j j) (r:Int) wr (HJ.o.h1.set j hjk) (HRK.o par r j j));clear HM HV hno hbj
        go_wp2_with (first
         | (go_at_call 211;refine HRM.o.mono ?_;rintro e w9 ⟨rfl,h9,k9⟩;have HM9:=hid (HJ.o.turn HL.o hjk k9 h9);have H9:=hid (H7.o.kept k9 (by have:=HNE.o j hjk;simp;omega));have HQ9:Box (q≤w9.heap.size):=hid (Nat.le_trans HQ.o k9.size))
         | (go_at_call 210;refine (HFI.o _ (j+1) HM9.o.keep H9.o).mono ?_;rintro e w10 ⟨v10,rfl,hv10,m10,rfl⟩))
        have kd:=za.drewN [] w9 m10;go_roundw
        case rel=>exact ⟨j+1,v10,rfl,by omega,hid hv10,hid (by
         have h5:=HM9.o.quiet kd
         exact ⟨h5.h1.congr (fun i _=>zir HB.o i),h5.h2,h5.cross,h5.keep,h5.box,h5.gr⟩),hid (H9.o.kept kd (by simp)),hid HQ9.o⟩
        case measure=>
         refine zjz hjk ?_;rcases hv10 with ⟨h0,_⟩ | ⟨i,h0,h1,h2,_⟩
         ·exact .inl h0
         ·exact .inr ⟨i,h0,by omega,h2⟩
     ·go_wp2_with (go_at_call 208;refine (HRG.o _ HM.o.keep).mono ?_;rintro e w6 ⟨rfl,rfl⟩)
      go_ret;exact ⟨p1,d1,q,rfl,HM.o.h1.congr (fun i _=>HEND.o r i (by omega)),HL.o.q1,HL.o.l1,HM.o.keep⟩
theorem ZV{B' n' c':Nat}{v':Value}{xs':List Value}{U:TypeId}(h:w.ownsRow B T c v n xs)(h':w.ownsRow B' U c' v' n' xs')(hne:T≠U)(hb:v.ownBlock=some b):v'.ownBlock≠some b:=by
 rcases h.2 with ⟨rfl,_⟩ | ⟨g,cap,cur,rfl,_,hg,_⟩
 ·simp[Value.ownBlock] at hb
 ·simp[Value.ownBlock] at hb
  subst hb;exact qZ h' hg (fun e=>hne e.symm)
theorem zha(h:w.ownsRow B T c v n xs)(hb:v.ownBlock=some b):B≤b:=by
 rcases h.2 with ⟨rfl,_⟩ | ⟨g,cap,cur,rfl,h1,_⟩
 ·simp[Value.ownBlock] at hb
 ·simp[Value.ownBlock] at hb
  omega
theorem zi7{base:Nat}{e:TypeId}{size:Nat}(h:w.ownsRow base e size v n xs):w.drew.ownsRow base e size v n xs:=h
structure TbM (B C:Nat) (w:World) (tb:Nat) (bv sv:Value) (nd:Int) (nb:Nat) (bs:List Value) (ns:Nat) (ss:List Value):Prop where
 box:w.heap[tb]? = some (.cells #[bv,sv,int i64 nd] 141 (0,0))
 bo:w.ownsRow B 3 1 bv nb bs
 so:w.ownsRow C 144 4 sv ns ss
 new:B≤tb
section
variable {B C:Nat}{w wa w5:World}{tb:Nat}{bv sv v5:Value}{nd:Int}{nb:Nat}{bs bs':List Value}{ns:Nat}{ss ss':List Value}
theorem TbM.quiet{w':World}(h:TbM B C w tb bv sv nd nb bs ns ss)(k:za [] w w'):TbM B C w' tb bv sv nd nb bs ns ss:=
 ⟨ze h.box k,zh h.bo k (fun _ _=>by simp),zh h.so k (fun _ _=>by simp),h.new⟩
theorem TbM.num(h:TbM B C w tb bv sv nd nb bs ns ss)(n:Int):TbM B C (w.setCell ⟨tb,2,none⟩ (int i64 n)) tb bv sv n nb bs ns ss:=by
 have ks:za [tb] w (w.setCell ⟨tb,2,none⟩ (int i64 n)):=za.setCell _ _ _ _ (List.mem_singleton.2 rfl);exact ⟨heap_setCell_same _ _ 2 _ _ _ h.box,zh h.bo ks (fun b hb hm=>qZ h.bo h.box (by decide) (by rw[hb,List.mem_singleton.1 hm])),zh h.so ks (fun b hb hm=>qZ h.so h.box (by decide) (by rw[hb,List.mem_singleton.1 hm])),h.new⟩
theorem TbM.far(h:TbM B C w tb bv sv nd nb bs ns ss)(ka:za [] w wa){D:Nat}{T:TypeId}{c n:Nat}{v:Value}{xs:List Value}(hr:w.ownsRow D T c v n xs)(hT:T≠141)(hg:wa.grownBy w5 v.ownBlock):w5.heap[tb]? = some (.cells #[bv,sv,int i64 nd] 141 (0,0))∧∀ {wS:World},wS.heap.size=D→za [tb] wS w→∀ (i:Nat) (x:Value),za [tb] wS (w5.setCell ⟨tb,i,none⟩ x):=by
 have h9:=h.quiet ka;have hr9:=zh hr ka (fun _ _=>by simp);have kg:za v.ownBlock.toList wa w5:=za.grown _ hg (fun k hk=>by rw[hk];simp);refine ⟨?_,fun {wS} hS k i x=> ?_⟩
 ·rw[kg.block tb (zx h9.box) (fun hm=>qZ hr9 h9.box hT (by simpa using hm))]
  exact h9.box
 ·refine ((k.quiet ka).trans kg (fun x hx hl=> ?_)).step (za.setCell _ _ _ _ (List.mem_singleton.2 rfl))
  have:=zha hr9 (b:=x) (by simpa using hx);omega
theorem TbM.app1(h:TbM B C w tb bv sv nd nb bs ns ss)(ka:za [] w wa){m:Nat}(ho:w5.ownsRow B 3 1 v5 m bs')(hg:wa.grownBy w5 bv.ownBlock):TbM B C (w5.setCell ⟨tb,0,none⟩ v5) tb v5 sv nd m bs' ns ss:=by
 have h9:=h.quiet ka;have kg:za bv.ownBlock.toList wa w5:=za.grown _ hg (fun k hk=>by rw[hk];simp);have hb:=(h.far ka h.bo (by decide) hg).1;have gs:w5.ownsRow C 144 4 sv ns ss:=zh h9.so kg (fun b hb hm=>ZV h9.so h9.bo (by decide) hb (by simpa using hm));have ks:za [tb] w5 (w5.setCell ⟨tb,0,none⟩ v5):=za.setCell _ _ _ _ (List.mem_singleton.2 rfl);exact ⟨heap_setCell_same _ _ 0 _ _ _ hb,zh ho ks (fun b hc hm=>qZ ho hb (by decide) (by rw[hc,List.mem_singleton.1 hm])),zh gs ks (fun b hc hm=>qZ gs hb (by decide) (by rw[hc,List.mem_singleton.1 hm])),h.new⟩
theorem TbM.app2(h:TbM B C w tb bv sv nd nb bs ns ss)(ka:za [] w wa){m:Nat}(ho:w5.ownsRow C 144 4 v5 m ss')(hg:wa.grownBy w5 sv.ownBlock):TbM B C (w5.setCell ⟨tb,1,none⟩ v5) tb bv v5 nd nb bs m ss':=by
 have h9:=h.quiet ka;have kg:za sv.ownBlock.toList wa w5:=za.grown _ hg (fun k hk=>by rw[hk];simp);have hb:=(h.far ka h.so (by decide) hg).1;have gs:w5.ownsRow B 3 1 bv nb bs:=zh h9.bo kg (fun b hb hm=>ZV h9.bo h9.so (by decide) hb (by simpa using hm));have ks:za [tb] w5 (w5.setCell ⟨tb,1,none⟩ v5):=za.setCell _ _ _ _ (List.mem_singleton.2 rfl);exact ⟨heap_setCell_same _ _ 1 _ _ _ hb,zh gs ks (fun b hc hm=>qZ gs hb (by decide) (by rw[hc,List.mem_singleton.1 hm])),zh ho ks (fun b hc hm=>qZ ho hb (by decide) (by rw[hc,List.mem_singleton.1 hm])),h.new⟩
theorem TbM.off(h:TbM B C w tb bv sv nd nb bs ns ss){b o:Nat}{x y:Int}(h0:w.cell? ⟨b,o,none⟩=some (int i64 x))(h1:w.cell? ⟨b,o+1,none⟩=some (int i64 y)):b≠tb:=by
 rintro rfl;rw[zc h.box] at h0 h1;have hv:∃ a n c,sv=.slice a n c:=by
  rcases h.so.2 with ⟨hv,_⟩ | ⟨g,cap,cur,hv,_⟩
  ·exact ⟨_,_,_,hv⟩
  ·exact ⟨_,_,_,hv⟩
 obtain ⟨a,n,c,rfl⟩:=hv;rcases o with _ | _ | o
 ·simp at h1
 ·simp at h0
 ·simp at h1
end
theorem zcg:Tryz.prog.underlying 139=some (.slice 144):=by kernel_rfl
theorem zfC:Tryz.prog.info? 144=some Tryz.t144:=by kernel_rfl
theorem zfK:Tryz.t144.zero=some (agg #[int i64 0,int i64 0,int i64 0,int i64 0]):=by kernel_rfl
theorem zfJ:Tryz.t144.size=4:=by kernel_rfl
theorem zed:Tryz.t144.bytes=32:=by kernel_rfl
def zcb(l:List St):List Value:=l.flatMap fun s=>[int i64 (s.p:Int),int i64 s.r,int i64 (s.c:Int),int i64 (s.n:Int)]
theorem zcI(l:List St)(s:St):zcb (l ++ [s])=zcb l ++ [int i64 (s.p:Int),int i64 s.r,int i64 (s.c:Int),int i64 (s.n:Int)]:=by
 unfold zcb;rw[List.flatMap_append,List.flatMap_singleton]
theorem zft(a b c d:Int):∀ u∈[Value.int .i64 a,int i64 b,int i64 c,int i64 d],u.oneCell'=true:=by
 intro u hu;simp at hu;rcases hu with rfl | rfl | rfl | rfl <;> rfl
structure SzP (P:Pr8):Prop where
 fn:P.funcs.length≤1000
 bk0:∀ f,f<P.funcs.length→0<(zf P f).blocks.length
 bk:∀ f,f<P.funcs.length→(zf P f).blocks.length≤600
 rg:∀ f,f<P.funcs.length→(zf P f).regs.length≤1000
 code:∀ f b,f<P.funcs.length→(zq (zf P f) b).code.length≤1000000
 few:∀ f b k,f<P.funcs.length→k<(zq (zf P f) b).code.length→(qm (zq (zf P f) b) k).args.length≤1000
def zca(P:Pr8)(q:Nat × Nat × Nat):Bool:=rch (zr (zf P q.1)) [0] q.2.1 && jH (zq (zf P q.1) q.2.1) (inS P (zf P q.1) q.2.1) q.2.2
def ZL(B:Nat × Nat × Nat→Bool)(l:List (Nat × Nat × Nat)):Prop:=∀ q,q∈l→B q=false
theorem ZL.nil(B:Nat × Nat × Nat→Bool):ZL B []:=fun q hq=>by cases hq
theorem ZL.app{B:Nat × Nat × Nat→Bool}{l m:List (Nat × Nat × Nat)}(h:ZL B l)(k:ZL B m):ZL B (l ++ m):=fun q hq=>by
 rcases List.mem_append.1 hq with h1 | h1
 ·exact h q h1
 ·exact k q h1
theorem zdT(P:Pr8):∀ {f m:Nat},f<m→∃ r,ptP P m=ptP P f ++ (ptF (zf P f) f (zf P f).blocks.length ++ r)
 | f,0,h=>absurd h (Nat.not_lt_zero _)
 | f,m+1,h=>by
  by_cases e:f=m
  ·subst e
   exact ⟨[],by rw[jc,List.append_nil]⟩
  ·obtain ⟨r,hr⟩:=zdT P (f:=f) (m:=m) (by omega)
   exact ⟨r ++ ptF (zf P m) m (zf P m).blocks.length,by rw[jc,hr];simp[List.append_assoc]⟩
theorem J3(f b:Nat):∀ {i n:Nat},i<n→∃ r,ptB f b n=ptB f b i ++ ((f,b,i) :: r)
 | i,0,h=>absurd h (Nat.not_lt_zero _)
 | i,n+1,h=>by
  by_cases e:i=n
  ·subst e
   exact ⟨[],by rw[jU]⟩
  ·obtain ⟨r,hr⟩:=J3 f b (i:=i) (n:=n) (by omega)
   exact ⟨r ++ [(f,b,n)],by rw[jU,hr];simp⟩
theorem zdD{i:Nat}(h:ZB P f b i):∃ r,pts P=(ptP P f ++ (ptF (zf P f) f b ++ ptB f b i)) ++ (f,b,i) :: r:=by
 obtain ⟨r1,h1⟩:=zdT P h.1;obtain ⟨r2,h2⟩:=Zf (zf P f) f h.2.1;obtain ⟨r3,h3⟩:=J3 f b (i:=i) (n:=(zq (zf P f) b).code.length+1) (by have:=h.2.2;omega);refine ⟨r3 ++ r2 ++ r1,?_⟩;unfold pts;rw[h1,h2,h3];simp[List.append_assoc]
theorem zbo{B:Nat × Nat × Nat→Bool}{i:Nat}(h:ZB P f b i)(hw:ZL B (ptP P f ++ (ptF (zf P f) f b ++ ptB f b i)))(hb:B (f,b,i)=true):(pts P).find? B=some (f,b,i):=by
 obtain ⟨r,hr⟩:=zdD h;rw[hr,List.find?_append,List.find?_eq_none.2 (fun q hq=>by simp[hw q hq]),List.find?_cons_of_pos hb];rfl
theorem JB{B:Nat × Nat × Nat→Bool}(hw:ZL B (pts P)):(pts P).find? B=none:=List.find?_eq_none.2 fun q hq=>by simp[hw q hq]
theorem zep(h:rch (zr (zf P f)) [0] b=false)(n:Nat):ZL (zca P) (ptB f b n):=fun q hq=>by
 unfold ptB at hq;obtain ⟨i,_,rfl⟩:=List.mem_map.1 hq;show (rch (zr (zf P f)) [0] b && _)=false;rw[h];rfl
theorem zcP(h:∀ i,i<n→jH (zq (zf P f) b) (inS P (zf P f) b) i=false):ZL (zca P) (ptB f b n):=fun q hq=>by
 unfold ptB at hq;obtain ⟨i,hi,rfl⟩:=List.mem_map.1 hq;show (_ && jH (zq (zf P f) b) (inS P (zf P f) b) i)=false;rw[h i (List.mem_range.1 hi),Bool.and_false]
def qR(o:Option (Nat × Nat × Nat))(y:Int)(w:World)(e:Ending)(w':World):Prop:=match o with
 | none=>e=.returned .nilIface∧za [] w w'
 | some q=>zfZ y (q.1:Int) (q.2.1:Int) (q.2.2:Int) w e w'
end Go.Proofs.YthflgjkmbakedaaGreatDoor
