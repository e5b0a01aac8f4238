import Derived.Test.YtkgoimokgbdgfaaGreatDoorV13

namespace Go.Proofs.YtkgoimokgbdgfaaGreatDoor
open Go.RowKit
open Go.Value (int pointer agg)
open Go.IntKind (i64)
set_option maxRecDepth 40000
set_option maxHeartbeats 40000000
variable {P:Pr8}{f:Fu8}{fb fo m n pb po s:Nat}{w:World}
theorem zhJ(h:ji P.recs 6 zed=false):jl P=false:=by unfold jl zgA;rw[h];simp
theorem ziG(h:ji P.sigs 10 zdO=false):jl P=false:=by unfold jl zgA;rw[h];simp
theorem ziD(h:ji P.ifs 4 ifB=false):jl P=false:=by unfold jl zgA;rw[h];simp
theorem zib(h:ji P.ims 12 imB=false):jl P=false:=by unfold jl zgA;rw[h];simp
theorem zhs(h:ji P.funcs 12 fnB=false):jl P=false:=by unfold jl zgA;rw[h];simp
theorem zkq(h:P.funcs.length=0):jl P=false:=by unfold jl zgA;rw[h];simp
theorem JG{k:Nat}(hk:k<P.funcs.length)(h:fnB (zg P k)=false):jl P=false:=zhs (qM (zh hk) h)
theorem zkR(h:16<f.regs.length):fnB f=false:=by
 unfold fnB;have:¬ f.regs.length≤16:=by omega
 simp[this]
theorem zk6(h:f.blocks.length=0):fnB f=false:=by unfold fnB;rw[h];simp
theorem zat(h:ji f.blocks 12 zdj=false):fnB f=false:=by unfold fnB;rw[h];simp
theorem zl2(h1:f.regs.length≤16)(h2:0<f.blocks.length)(h3:ji f.blocks 12 zdj=true):fnB f=true:=by unfold fnB;simp[h1,h2,h3]
theorem zko{b:Bl8}{k:Nat}(hk:k<b.code.length)(h:4<(qQ b k).args.length):zdj b=false:=by
 refine qM (show b.code[k]? = some (qQ b k) from zh hk) ?_;unfold zfD;exact decide_eq_false (by omega)
theorem zlV(hf:0<P.funcs.length)(h0:ji P.recs 6 zed=true)(h1:ji P.sigs 10 zdO=true)(h2:ji P.ifs 4 ifB=true)(h3:ji P.ims 12 imB=true)(h4:ji P.funcs 12 fnB=true):jl P=(decide ((pts P).length≤600) && decide (Zf P (pts P)≤40)):=by
 unfold jl zgA;rw[h0,h1,h2,h3,h4];simp[hf]
theorem zjT(P:Pr8)(f b:Nat):za3 P (f,b,(zr (zg P f) b).code.length)=false:=by
 unfold za3;simp
theorem zmo{f b i:Nat}(h:i<(zr (zg P f) b).code.length):za3 P (f,b,i)=decide ((qQ (zr (zg P f) b) i).op=5):=by
 unfold za3;simp[h]
structure Cnt (P:Pr8) (l:List (Nat × Nat × Nat)) (n s m:Nat):Prop where
 en:n=l.length
 es:s=Zf P l
 em:n≤m
theorem Cnt.nil(P:Pr8)(m:Nat):Cnt P [] 0 0 m:=⟨rfl,rfl,Nat.zero_le _⟩
theorem Cnt.le{l:List (Nat × Nat × Nat)}(h:Cnt P l n s m):s≤n:=by rw[h.es,h.en];exact zb0 P l
theorem Cnt.snoc{l:List (Nat × Nat × Nat)}(h:Cnt P l n s m)(q:Nat × Nat × Nat):Cnt P (l ++ [q]) (n+1) (s+(if za3 P q then 1 else 0)) (m+1):=
 ⟨by rw[List.length_append,h.en];rfl,by rw[zaW,h.es],by have:=h.em;omega⟩
theorem Cnt.cast{l l':List (Nat × Nat × Nat)}{n' s' m':Nat}(h:Cnt P l n s m)(e1:l=l')(e2:n=n')(e3:s=s')(e4:m≤m'):Cnt P l' n' s' m':=by
 subst e1 e2 e3;exact ⟨h.en,h.es,Nat.le_trans h.em e4⟩
theorem zex(w:World):Calls Tryz.prog 14 #[.pointer none] w fun e w'=>e=.returned (.bool false)∧zc [] w w':=by
 go_enter Tryz.func14,Tryz.ntmps14;go_wp2;go_ret;exact ⟨rfl,zc.refl _ _⟩
theorem J0(h:PrC w pb po P):Calls Tryz.prog 14 #[pointer (some ⟨pb,po,none⟩)] w fun e w'=>e=.returned (.bool (jl P))∧zc [] w w':=by
 obtain ⟨a0,p0,c0,r0,_⟩:=h.c0;obtain ⟨a1,p1,c1,r1,_⟩:=h.c1;obtain ⟨a2,p2,c2,r2,_⟩:=h.c2;obtain ⟨a3,p3,c3,r3,_⟩:=h.c3;obtain ⟨a4,p4,c4,r4,_⟩:=h.c4;have R0:=hid r0;obtain ⟨n0,hn0⟩:∃ n,n=P.recs.length:=⟨_,rfl⟩;rw[← hn0] at c0;have N0:=hid hn0;have R1:=hid r1;obtain ⟨n1,hn1⟩:∃ n,n=P.sigs.length:=⟨_,rfl⟩;rw[← hn1] at c1;have N1:=hid hn1;have R2:=hid r2;obtain ⟨n2,hn2⟩:∃ n,n=P.ifs.length:=⟨_,rfl⟩;rw[← hn2] at c2;have N2:=hid hn2;have R3:=hid r3;obtain ⟨n3,hn3⟩:∃ n,n=P.ims.length:=⟨_,rfl⟩;rw[← hn3] at c3;have N3:=hid hn3;have R4:=hid r4;obtain ⟨n4,hn4⟩:∃ n,n=P.funcs.length:=⟨_,rfl⟩;rw[← hn4] at c4;have N4:=hid hn4;have C4:Box (∀ w',zc [] w w'→w'.cell? ⟨pb,po+4,none⟩=some (.slice a4 n4 p4)):=hid (by have c:=c4;exact fun w' k=>za k c);clear r0 r1 r2 r3 r4 hn0 hn1 hn2 hn3 hn4 h;by_cases g0:n0≤6
 case neg=>
  have g0':(6:Int)<(n0:Int):=by omega
  have HR:Box (jl P=false):=hid (zhJ (qz (by rw[← N0.o];omega)));clear g0;go_enter Tryz.func14,Tryz.ntmps14;go_wp2;go_ret;exact ⟨by rw[HR.o];rfl,zc.refl _ _⟩
 have g0':¬ (6:Int)<(n0:Int):=by omega
 by_cases g1:n1≤10
 case neg=>
  have g1':(10:Int)<(n1:Int):=by omega
  have HR:Box (jl P=false):=hid (ziG (qz (by rw[← N1.o];omega)));clear g1;go_enter Tryz.func14,Tryz.ntmps14;go_wp2;go_ret;exact ⟨by rw[HR.o];rfl,zc.refl _ _⟩
 have g1':¬ (10:Int)<(n1:Int):=by omega
 by_cases g2:n2≤4
 case neg=>
  have g2':(4:Int)<(n2:Int):=by omega
  have HR:Box (jl P=false):=hid (ziD (qz (by rw[← N2.o];omega)));clear g2;go_enter Tryz.func14,Tryz.ntmps14;go_wp2;go_ret;exact ⟨by rw[HR.o];rfl,zc.refl _ _⟩
 have g2':¬ (4:Int)<(n2:Int):=by omega
 by_cases g3:n3≤12
 case neg=>
  have g3':(12:Int)<(n3:Int):=by omega
  have HR:Box (jl P=false):=hid (zib (qz (by rw[← N3.o];omega)));clear g3;go_enter Tryz.func14,Tryz.ntmps14;go_wp2;go_ret;exact ⟨by rw[HR.o];rfl,zc.refl _ _⟩
 have g3':¬ (12:Int)<(n3:Int):=by omega
 by_cases g4:n4≤12
 case neg=>
  have g4':(12:Int)<(n4:Int):=by omega
  have HR:Box (jl P=false):=hid (zhs (qz (by rw[← N4.o];omega)));clear g4;go_enter Tryz.func14,Tryz.ntmps14;go_wp2;go_ret;exact ⟨by rw[HR.o];rfl,zc.refl _ _⟩
 have g4':¬ (12:Int)<(n4:Int):=by omega
 by_cases gz:n4=0
 case pos=>
  have HR:Box (jl P=false):=hid (zkq (by rw[← N4.o];exact gz));have gz':((n4:Int) == 0)=true:=eqb (by omega);clear gz;go_enter Tryz.func14,Tryz.ntmps14;go_wp2;go_ret;exact ⟨by rw[HR.o];rfl,zc.refl _ _⟩
 have gz':((n4:Int) == 0)=false:=neb (by omega);have HPOS:Box (0<P.funcs.length):=hid (by rw[← N4.o];omega);clear gz;go_enter Tryz.func14,Tryz.ntmps14;go_wp2_with fail;clear gz' g0' g1' g2' g3' g4'
 go_loop [3] (fun kv=>∃ k:Nat,k≤n0∧kv=int i64 (k:Int)∧Box (∀ j y,j<k→P.recs[j]? = some y→zed y=true)) (fun kv=>n0 - (intOf kv).toNat)
 case atStart=>exact ⟨0,by omega,rfl,hid fun j y hj=>by omega⟩
 case round=>
  obtain ⟨k,hk,rfl,HB⟩:=hrel;by_cases hlt:k<n0
  ·have hlt':(k:Int)<(n0:Int):=by omega
   obtain ⟨y,hy⟩:∃ y,P.recs[k]? = some y:=⟨_,List.getElem?_eq_getElem (by rw[← N0.o];exact hlt)⟩;obtain ⟨b,off,rfl,hc⟩:=R0.o.at hy;rw[Nat.mul_one] at hc;obtain ⟨ea,ep,e0,_⟩:=hc;have HY:=hid hy;clear hy;obtain ⟨m,hm⟩:∃ m,m=y.length:=⟨_,rfl⟩;rw[← hm] at e0;have HM:=hid hm;clear hm;by_cases hml:m≤4
   ·have hml':¬ (4:Int)<(m:Int):=by omega
    have HG:Box (zed y=true):=hid (by unfold zed;exact decide_eq_true (by rw[← HM.o];exact hml));clear hml;go_wp2_with fail
    go_round
    case rel=>exact ⟨k+1,by omega,by go_num,hid fun j z hj hz=>by
     by_cases e:j<k
     ·exact HB.o j z e hz
     ·obtain rfl:j=k:=by omega
      rw[HY.o] at hz;cases hz
      exact HG.o⟩
    case measure=>simp[intOf];omega
   ·have hml':(4:Int)<(m:Int):=by omega
    have HR:Box (jl P=false):=hid (zhJ (qM HY.o (by unfold zed;exact decide_eq_false (by rw[← HM.o];exact hml))));clear hml;go_wp2_with fail;go_ret;exact ⟨by rw[HR.o];rfl,zc.refl _ _⟩
  ·obtain rfl:k=n0:=by omega
   have T0:Box (ji P.recs 6 zed=true):=hid (qB (by rw[← N0.o];exact g0) (fun j y hy=>HB.o j y (by rw[N0.o];exact (List.getElem?_eq_some_iff.1 hy).1) hy));clear HB hk g0;go_wp2_with fail;clear c0 hlt
   go_loop [4] (fun kv=>∃ k:Nat,k≤n1∧kv=int i64 (k:Int)∧Box (∀ j y,j<k→P.sigs[j]? = some y→zdO y=true)) (fun kv=>n1 - (intOf kv).toNat)
   case atStart=>exact ⟨0,by omega,rfl,hid fun j y hj=>by omega⟩
   case round=>
    obtain ⟨k,hk,rfl,HB⟩:=hrel;by_cases hlt:k<n1
    ·have hlt':(k:Int)<(n1:Int):=by omega
     obtain ⟨y,hy⟩:∃ y,P.sigs[k]? = some y:=⟨_,List.getElem?_eq_getElem (by rw[← N1.o];exact hlt)⟩;obtain ⟨b,off,rfl,hc⟩:=R1.o.at hy
     skip
     obtain ⟨ea,ep,e0,_⟩:=hc.c0;have HY:=hid hy;clear hc hy;obtain ⟨m,hm⟩:∃ m,m=y.1.length:=⟨_,rfl⟩;rw[← hm] at e0;have HM:=hid hm;clear hm;by_cases hml:m≤4
     ·have hml':¬ (4:Int)<(m:Int):=by omega
      have HG:Box (zdO y=true):=hid (by unfold zdO;exact decide_eq_true (by rw[← HM.o];exact hml));clear hml;go_wp2_with fail
      go_round
      case rel=>exact ⟨k+1,by omega,by go_num,hid fun j z hj hz=>by
       by_cases e:j<k
       ·exact HB.o j z e hz
       ·obtain rfl:j=k:=by omega
        rw[HY.o] at hz;cases hz
        exact HG.o⟩
      case measure=>simp[intOf];omega
     ·have hml':(4:Int)<(m:Int):=by omega
      have HR:Box (jl P=false):=hid (ziG (qM HY.o (by unfold zdO;exact decide_eq_false (by rw[← HM.o];exact hml))));clear hml;go_wp2_with fail;go_ret;exact ⟨by rw[HR.o];rfl,zc.refl _ _⟩
    ·obtain rfl:k=n1:=by omega
     have T1:Box (ji P.sigs 10 zdO=true):=hid (qB (by rw[← N1.o];exact g1) (fun j y hy=>HB.o j y (by rw[N1.o];exact (List.getElem?_eq_some_iff.1 hy).1) hy));clear HB hk g1;go_wp2_with fail;clear c1 hlt
     go_loop [5] (fun kv=>∃ k:Nat,k≤n2∧kv=int i64 (k:Int)∧Box (∀ j y,j<k→P.ifs[j]? = some y→ifB y=true)) (fun kv=>n2 - (intOf kv).toNat)
     case atStart=>exact ⟨0,by omega,rfl,hid fun j y hj=>by omega⟩
     case round=>
      obtain ⟨k,hk,rfl,HB⟩:=hrel;by_cases hlt:k<n2
      ·have hlt':(k:Int)<(n2:Int):=by omega
       obtain ⟨y,hy⟩:∃ y,P.ifs[k]? = some y:=⟨_,List.getElem?_eq_getElem (by rw[← N2.o];exact hlt)⟩;obtain ⟨b,off,rfl,hc⟩:=R2.o.at hy;rw[Nat.mul_one] at hc;obtain ⟨ea,ep,e0,_⟩:=hc;have HY:=hid hy;clear hy;obtain ⟨m,hm⟩:∃ m,m=y.length:=⟨_,rfl⟩;rw[← hm] at e0;have HM:=hid hm;clear hm;by_cases hml:m≤3
       ·have hml':¬ (3:Int)<(m:Int):=by omega
        have HG:Box (ifB y=true):=hid (by unfold ifB;exact decide_eq_true (by rw[← HM.o];exact hml));clear hml;go_wp2_with fail
        go_round
        case rel=>exact ⟨k+1,by omega,by go_num,hid fun j z hj hz=>by
         by_cases e:j<k
         ·exact HB.o j z e hz
         ·obtain rfl:j=k:=by omega
          rw[HY.o] at hz;cases hz
          exact HG.o⟩
        case measure=>simp[intOf];omega
       ·have hml':(3:Int)<(m:Int):=by omega
        have HR:Box (jl P=false):=hid (ziD (qM HY.o (by unfold ifB;exact decide_eq_false (by rw[← HM.o];exact hml))));clear hml;go_wp2_with fail;go_ret;exact ⟨by rw[HR.o];rfl,zc.refl _ _⟩
      ·obtain rfl:k=n2:=by omega
       have T2:Box (ji P.ifs 4 ifB=true):=hid (qB (by rw[← N2.o];exact g2) (fun j y hy=>HB.o j y (by rw[N2.o];exact (List.getElem?_eq_some_iff.1 hy).1) hy));clear HB hk g2;go_wp2_with fail;clear c2 hlt
       go_loop [6] (fun kv=>∃ k:Nat,k≤n3∧kv=int i64 (k:Int)∧Box (∀ j y,j<k→P.ims[j]? = some y→imB y=true)) (fun kv=>n3 - (intOf kv).toNat)
       case atStart=>exact ⟨0,by omega,rfl,hid fun j y hj=>by omega⟩
       case round=>
        obtain ⟨k,hk,rfl,HB⟩:=hrel;by_cases hlt:k<n3
        ·have hlt':(k:Int)<(n3:Int):=by omega
         obtain ⟨y,hy⟩:∃ y,P.ims[k]? = some y:=⟨_,List.getElem?_eq_getElem (by rw[← N3.o];exact hlt)⟩;obtain ⟨b,off,rfl,hc⟩:=R3.o.at hy
         skip
         obtain ⟨ea,ep,e0,_⟩:=hc.c2;have HY:=hid hy;clear hc hy;obtain ⟨m,hm⟩:∃ m,m=y.2.2.length:=⟨_,rfl⟩;rw[← hm] at e0;have HM:=hid hm;clear hm;by_cases hml:m≤3
         ·have hml':¬ (3:Int)<(m:Int):=by omega
          have HG:Box (imB y=true):=hid (by unfold imB;exact decide_eq_true (by rw[← HM.o];exact hml));clear hml;go_wp2_with fail
          go_round
          case rel=>exact ⟨k+1,by omega,by go_num,hid fun j z hj hz=>by
           by_cases e:j<k
           ·exact HB.o j z e hz
           ·obtain rfl:j=k:=by omega
            rw[HY.o] at hz;cases hz
            exact HG.o⟩
          case measure=>simp[intOf];omega
         ·have hml':(3:Int)<(m:Int):=by omega
          have HR:Box (jl P=false):=hid (zib (qM HY.o (by unfold imB;exact decide_eq_false (by rw[← HM.o];exact hml))));clear hml;go_wp2_with fail;go_ret;exact ⟨by rw[HR.o];rfl,zc.refl _ _⟩
        ·obtain rfl:k=n3:=by omega
         have T3:Box (ji P.ims 12 imB=true):=hid (qB (by rw[← N3.o];exact g3) (fun j y hy=>HB.o j y (by rw[N3.o];exact (List.getElem?_eq_some_iff.1 hy).1) hy));clear HB hk g3;go_wp2_with fail;clear c3 hlt;have c4':=c4
         go_loopw [7,8,9] (fun nv sv kv wr=>∃ (k n s:Nat),k≤n4∧kv=int i64 (k:Int)∧nv=int i64 (n:Int)∧sv=int i64 (s:Int)∧Box (Cnt P (ptP P k) n s (372 * k))∧Box (zc [] w wr)∧Box (∀ j,j<k→fnB (zg P j)=true)) (fun _ _ kv _=>n4 - (intOf kv).toNat)
         case atStart=>exact ⟨0,0,0,by omega,rfl,rfl,rfl,hid (Cnt.nil _ _),hid (zc.refl _ _),hid fun j hj=>by omega⟩
         case round=>
          obtain ⟨k,n,s,hk,rfl,rfl,rfl,HC,HK,HB⟩:=hrel;have d4:=C4.o _ HK.o;have hn9:n≤372 * k:=HC.o.em;have hs9:s≤n:=HC.o.le;clear c4 c4';by_cases hlt:k<n4
          ·have hlt':(k:Int)<(n4:Int):=by omega
           have hkf:Box (k<P.funcs.length):=hid (by rw[← N4.o];exact hlt);obtain ⟨fb,fo,rfl,hfu⟩:=R4.o.at (zh (d:=⟨0,[],[]⟩) hkf.o);have hfu':FuC w fb (fo+k * 3) (zg P k):=hfu;obtain ⟨ra,rp,e1,_⟩:=hfu'.c1;obtain ⟨ba,bp,e2,rb,_⟩:=hfu'.c2;have e0:=za HK.o hfu'.c0.1;replace e1:=za HK.o e1;replace e2:=za HK.o e2;have RB:=hid rb;obtain ⟨rn,hrn⟩:∃ m,m=(zg P k).regs.length:=⟨_,rfl⟩;obtain ⟨bn,hbn⟩:∃ m,m=(zg P k).blocks.length:=⟨_,rfl⟩;rw[← hrn] at e1;rw[← hbn] at e2;have HRN:=hid hrn;have HBN:=hid hbn;clear hfu hfu' rb hrn hbn;generalize (zg P k).sig=sg at *;have ka:=zc.alloc [] wr (.cells #[int i64 sg,.slice ra rn rp,.slice ba bn bp] 45);have hnew:=zf wr (.cells #[int i64 sg,.slice ra rn rp,.slice ba bn bp] 45);have HK2:=hid (HK.o.quiet ka);clear ka;by_cases gr:rn≤16
           case neg=>
            have gr':(16:Int)<(rn:Int):=by omega
            have HR:Box (jl P=false):=hid (JG hkf.o (zkR (by rw[← HRN.o];omega)));clear gr hn9 hs9;go_wp2_with fail;go_ret;exact ⟨by rw[HR.o];rfl,HK2.o⟩
           have gr':¬ (16:Int)<(rn:Int):=by omega
           by_cases gb:bn≤12
           case neg=>
            have gb':(12:Int)<(bn:Int):=by omega
            have HR:Box (jl P=false):=hid (JG hkf.o (zat (qz (by rw[← HBN.o];omega))));clear gb hn9 hs9;go_wp2_with fail;go_ret;exact ⟨by rw[HR.o];rfl,HK2.o⟩
           have gb':¬ (12:Int)<(bn:Int):=by omega
           by_cases gz:bn=0
           case pos=>
            have gz':((bn:Int) == 0)=true:=eqb (by omega);have HR:Box (jl P=false):=hid (JG hkf.o (zk6 (by rw[← HBN.o];exact gz)));clear gz hn9 hs9;go_wp2_with fail;go_ret;exact ⟨by rw[HR.o];rfl,HK2.o⟩
           have gz':((bn:Int) == 0)=false:=neb (by omega);have HFY:=hid fun (hh:ji (zg P k).blocks 12 zdj=true)=>zl2 (f:=zg P k) (by rw[← HRN.o];exact gr) (by rw[← HBN.o];omega) hh;clear gz gr;go_wp2_with fail;clear gz' gr' gb' e0 e1 e2 d4 HK;generalize wr.alloc (.cells #[int i64 sg,.slice ra rn rp,.slice ba bn bp] 45)=w3 at *;generalize wr.heap.size=q at *;have z2:=zd hnew 2;clear hnew;have HC2:Box (Cnt P (ptP P k ++ ptF (zg P k) k 0) n s (372 * k+31 * 0)):=hid (HC.o.cast (by rw[zcR,List.append_nil]) rfl rfl (by omega))
           go_loop [7,8,11] (fun nv sv bv=>∃ (b n s:Nat),b≤bn∧bv=int i64 (b:Int)∧nv=int i64 (n:Int)∧sv=int i64 (s:Int)∧Box (Cnt P (ptP P k ++ ptF (zg P k) k b) n s (372 * k+31 * b))∧Box (∀ j,j<b→zdj (zr (zg P k) j)=true)) (fun _ _ bv=>bn - (intOf bv).toNat)
           case atStart=>exact ⟨0,n,s,by omega,rfl,rfl,rfl,HC2,hid fun j hj=>by omega⟩
           case round=>
            obtain ⟨b,n,s,hb,rfl,rfl,rfl,HC,HBB⟩:=hrel;clear HC2 hn9 hs9;have hn9:n≤372 * k+31 * b:=HC.o.em;have hs9:s≤n:=HC.o.le;by_cases hlb:b<bn
            ·have hlb':(b:Int)<(bn:Int):=by omega
             have hbf:Box (b<(zg P k).blocks.length):=hid (by rw[← HBN.o];exact hlb);obtain ⟨bb,bo,rfl,hbl⟩:=RB.o.at (show (zg P k).blocks[b]? = some (zr (zg P k) b) from zh hbf.o);obtain ⟨ca,cp,e3,rc,_⟩:=hbl.c0;have E3:=za HK2.o e3;have RC:=hid rc;obtain ⟨cn,hcn⟩:∃ m,m=(zr (zg P k) b).code.length:=⟨_,rfl⟩;rw[← hcn] at E3;have HCN:=hid hcn;clear hbl e3 rc hcn;by_cases gc:cn≤30
             case neg=>
              have gc':(30:Int)<(cn:Int):=by omega
              have HR:Box (jl P=false):=hid (JG hkf.o (zat (qM (show (zg P k).blocks[b]? = some (zr (zg P k) b) from zh hbf.o) (qz (by rw[← HCN.o];omega)))));clear gc hn9 hs9;go_wp2_with fail;go_ret;exact ⟨by rw[HR.o];rfl,HK2.o⟩
             have gc':¬ (30:Int)<(cn:Int):=by omega
             go_wp2_with fail;clear gc';have HC3:Box (Cnt P (ptP P k ++ ptF (zg P k) k b ++ ptB k b 0) n s (372 * k+31 * b+0)):=hid (HC.o.cast (by rw[J9,List.append_nil]) rfl rfl (by omega))
             go_loop [7,8,12] (fun nv sv iv=>∃ (i n s:Nat),i≤cn∧iv=int i64 (i:Int)∧nv=int i64 (n:Int)∧sv=int i64 (s:Int)∧Box (Cnt P (ptP P k ++ ptF (zg P k) k b ++ ptB k b i) n s (372 * k+31 * b+i))∧Box (∀ j,j<i→zfD (qQ (zr (zg P k) b) j)=true)) (fun _ _ iv=>cn - (intOf iv).toNat)
             case atStart=>exact ⟨0,n,s,by omega,rfl,rfl,rfl,HC3,hid fun j hj=>by omega⟩
             case round=>
              obtain ⟨i,n,s,hi,rfl,rfl,rfl,HC,HIB⟩:=hrel;clear HC3 hn9 hs9;have hn9:n≤372 * k+31 * b+i:=HC.o.em;have hs9:s≤n:=HC.o.le;by_cases hli:i<cn
              ·have hli':(i:Int)<(cn:Int):=by omega
               have hif:Box (i<(zr (zg P k) b).code.length):=hid (by rw[← HCN.o];exact hli);obtain ⟨ib,io,rfl,hin⟩:=RC.o.at (show (zr (zg P k) b).code[i]? = some (qQ (zr (zg P k) b) i) from zh hif.o);obtain ⟨ga,gp,e5,_⟩:=hin.c5;have E5:=za HK2.o e5;have E0:=za HK2.o hin.c0.1;obtain ⟨an,han⟩:∃ m,m=(qQ (zr (zg P k) b) i).args.length:=⟨_,rfl⟩;rw[← han] at E5;have HAN:=hid han;clear hin e5 han;have HSN:Box (ptP P k ++ ptF (zg P k) k b ++ ptB k b (i+1)=(ptP P k ++ ptF (zg P k) k b ++ ptB k b i) ++ [(k,b,i)]):=hid (by rw[Zm, ← List.append_assoc]);have HSI:=hid (zmo (P:=P) (f:=k) (b:=b) hif.o);generalize (qQ (zr (zg P k) b) i).op=op at *;by_cases ga':an≤4
               case neg=>
                have g5:(4:Int)<(an:Int):=by omega
                have HR:Box (jl P=false):=hid (JG hkf.o (zat (qM (show (zg P k).blocks[b]? = some (zr (zg P k) b) from zh hbf.o) (zko hif.o (by rw[← HAN.o];omega)))));clear ga' hn9 hs9;go_wp2_with fail;go_ret;exact ⟨by rw[HR.o];rfl,HK2.o⟩
               have g5:¬ (4:Int)<(an:Int):=by omega
               have HIB2:Box (∀ j,j<i+1→zfD (qQ (zr (zg P k) b) j)=true):=hid fun j hj=>by
                by_cases e:j<i
                ·exact HIB.o j e
                ·obtain rfl:j=i:=by omega
                 unfold zfD;exact decide_eq_true (by rw[← HAN.o];exact ga')
               have hn8:(n:Int)≤6000:=by omega
               have hs8:(s:Int)≤6000:=by omega
               by_cases hop:op=5
               ·have hop':=eqb hop
                have HC9:Box (Cnt P (ptP P k ++ ptF (zg P k) k b ++ ptB k b (i+1)) (n+1) (s+1) (372 * k+31 * b+(i+1))):=hid ((HC.o.snoc (k,b,i)).cast HSN.o.symm rfl (by rw[HSI.o];simp[hop]) (by omega));clear hop ga' hn9 hs9;go_wp2_with fail
                go_round
                case rel=>exact ⟨i+1,n+1,s+1,by omega,by go_num,by go_num,by go_num,HC9,HIB2⟩
                case measure=>simp[intOf];omega
               ·have hop':=neb hop
                have HC9:Box (Cnt P (ptP P k ++ ptF (zg P k) k b ++ ptB k b (i+1)) (n+1) s (372 * k+31 * b+(i+1))):=hid ((HC.o.snoc (k,b,i)).cast HSN.o.symm rfl (by rw[HSI.o];simp[hop]) (by omega));clear hop ga' hn9 hs9;go_wp2_with fail
                go_round
                case rel=>exact ⟨i+1,n+1,s,by omega,by go_num,by go_num,rfl,HC9,HIB2⟩
                case measure=>simp[intOf];omega
              ·obtain rfl:i=cn:=by omega
               have hn8:(n:Int)≤6000:=by omega
               have HBL:Box (zdj (zr (zg P k) b)=true):=hid (qB (by rw[← HCN.o];exact gc) (fun j y hy=>by
                have hj:=(List.getElem?_eq_some_iff.1 hy).1;have:=HIB.o j (by rw[HCN.o];exact hj);rw[show (zr (zg P k) b).code[j]? = some (qQ (zr (zg P k) b) j) from zh hj] at hy;cases hy
                exact this))
               have HC9:Box (Cnt P (ptP P k ++ ptF (zg P k) k (b+1)) (n+1) s (372 * k+31 * (b+1))):=hid ((HC.o.snoc (k,b,i)).cast (by rw[jw, ← HCN.o,Zm];simp only[List.append_assoc]) rfl (by rw[HCN.o,zjT];simp) (by omega));have HBB2:Box (∀ j,j<b+1→zdj (zr (zg P k) j)=true):=hid fun j hj=>by
                by_cases e:j<b
                ·exact HBB.o j e
                ·obtain rfl:j=b:=by omega
                 exact HBL.o
               clear hn9 hs9 hlb;go_wp2_with fail
               go_round
               case rel=>exact ⟨b+1,n+1,s,by omega,by go_num,by go_num,rfl,HC9,HBB2⟩
               case measure=>simp[intOf];omega
            ·obtain rfl:b=bn:=by omega
             have HFN:Box (fnB (zg P k)=true):=hid (HFY.o (qB (by rw[← HBN.o];exact gb) (fun j y hy=>by
              have hj:=(List.getElem?_eq_some_iff.1 hy).1;have:=HBB.o j (by rw[HBN.o];exact hj);rw[show (zg P k).blocks[j]? = some (zr (zg P k) j) from zh hj] at hy;cases hy
              exact this)))
             have HC9:Box (Cnt P (ptP P (k+1)) n s (372 * (k+1))):=hid (HC.o.cast (by rw[Qi, ← HBN.o]) rfl rfl (by omega));have HB2:Box (∀ j,j<k+1→fnB (zg P j)=true):=hid fun j hj=>by
              by_cases e:j<k
              ·exact HB.o j e
              ·obtain rfl:j=k:=by omega
               exact HFN.o
             clear hn9 hs9;go_wp2_with fail;go_roundw
             case rel=>exact ⟨k+1,n,s,by omega,by go_num,rfl,rfl,HC9,HK2,HB2⟩
             case measure=>simp[intOf];omega
          ·obtain rfl:k=n4:=by omega
           have T4:Box (ji P.funcs 12 fnB=true):=hid (qB (by rw[← N4.o];exact g4) (fun j y hy=>by
            have hj:=(List.getElem?_eq_some_iff.1 hy).1;have:=HB.o j (by rw[N4.o];exact hj);rw[show P.funcs[j]? = some (zg P j) from zh hj] at hy;cases hy
            exact this))
           have HE:Box (jl P=(decide (n≤600) && decide (s≤40))):=hid (by
            rw[zlV HPOS.o T0.o T1.o T2.o T3.o T4.o];have e1:ptP P k=pts P:=by rw[N4.o];rfl
            rw[← e1, ← HC.o.en, ← HC.o.es])
           by_cases h6:n≤600
           ·have h6':(n:Int)≤600:=by omega
            have hd:decide ((s:Int)≤40)=decide (s≤40):=by congr 1;exact propext ⟨fun h=>by omega,fun h=>by omega⟩
            have HR:Box (jl P=decide ((s:Int)≤40)):=hid (by rw[HE.o,hd];simp[h6]);clear hd h6 hn9 hs9 HE;go_wp2_with fail;go_ret;exact ⟨by rw[HR.o];first | rfl | simp,HK.o⟩
           ·have h6':¬ (n:Int)≤600:=by omega
            have HR:Box (jl P=false):=hid (by rw[HE.o];simp[h6]);clear h6 hn9 hs9 HE;go_wp2_with fail;go_ret;exact ⟨by rw[HR.o];rfl,HK.o⟩
def jn(P:Pr8)(f:Fu8)(x:In8):Bool:=
 if x.op=10∨x.op=12 then inB x.n P.funcs.length
 else if x.op=7∨x.op=8 then (qy P (zp f x.a) x.n).isSome || decide ((zp f x.a).1≠1)
 else if x.op=14 then (Zu P (zp f x.a) x.n).isSome || decide ((zp f x.a).1≠3) else true
theorem zmR(h:PrC w pb po P)(x:In8)(ar:Value)(hop:x.op=10∨x.op=12):Calls Tryz.prog 148 #[pointer (some ⟨pb,po,none⟩),pointer (some ⟨fb,fo,none⟩),zD x ar] w fun e w'=>e=.returned (.bool (jn P f x))∧zc [] w w':=by
 have HE:Box (jn P f x=inB x.n P.funcs.length):=hid (by unfold jn;rw[if_pos hop]);obtain ⟨fa,fp,c4,_⟩:=h.c4;have ka:=zc.alloc [] w (.cells #[int i64 x.op,int i64 x.dst,int i64 x.a,int i64 x.b,int i64 x.n,ar] 39);replace c4:=za ka c4;have KA:=hid ka;have HW:=hid fun (w:World)=>zC x.n P.funcs.length w;clear h ka;unfold zD;generalize jn P f x=res at *;generalize inB x.n P.funcs.length=r at *;generalize P.funcs.length=n at *;rcases hop with e | e
 ·rw[e] at KA c4 ⊢
  go_enter Tryz.func148,Tryz.ntmps148;go_upto_region 4 with fail;go_quiet ((go_at_call 50;exact Calls.quiet_of_same (HW.o _)));go_wp2_with fail;go_ret;exact ⟨by rw[HE.o];rfl,KA.o.quiet (zc.drewN _ _ _)⟩
 ·rw[e] at KA c4 ⊢
  go_enter Tryz.func148,Tryz.ntmps148;go_upto_region 4 with fail;go_quiet ((go_at_call 50;exact Calls.quiet_of_same (HW.o _)));go_wp2_with fail;go_ret;exact ⟨by rw[HE.o];rfl,KA.o.quiet (zc.drewN _ _ _)⟩
theorem Js(o:Option (Int × Int)):∃ t b,zff o=.tuple #[tyV t,.bool b]∧b=o.isSome:=⟨o.getD (0,0),o.isSome,rfl,rfl⟩
theorem zhq(h:PrC w pb po P)(hf:FuC w fb fo f)(x:In8)(ar:Value)(hop:x.op=7∨x.op=8):Calls Tryz.prog 148 #[pointer (some ⟨pb,po,none⟩),pointer (some ⟨fb,fo,none⟩),zD x ar] w fun e w'=>e=.returned (.bool (jn P f x))∧zc [] w w':=by
 have HE:Box (jn P f x=((qy P (zp f x.a) x.n).isSome || decide ((zp f x.a).1≠1))):=hid (by unfold jn;rw[if_neg (by omega),if_pos hop]);have ka:=zc.alloc [] w (.cells #[int i64 x.op,int i64 x.dst,int i64 x.a,int i64 x.b,int i64 x.n,ar] 39);have hn:=zf w (.cells #[int i64 x.op,int i64 x.dst,int i64 x.a,int i64 x.b,int i64 x.n,ar] 39);have HRT:=hid (zA (FuC.stays _ _ _ _ _ ka hf) x.a);have HFI:=hid fun (w':World) (k:zc [] w w')=>zbk (PrC.stays _ _ _ _ _ k h) (zp f x.a) x.n;have KA:=hid ka;have HN:=hid hn;clear h hf ka hn;unfold zD;generalize jn P f x=res at *;obtain ⟨t,b,hv,hb⟩:=Js (qy P (zp f x.a) x.n);rw[hv] at HFI;rw[← hb] at HE;clear hv hb;generalize zp f x.a=T at *;have go:∀ (o:Int),x.op=o→((o == 10)=false)→((o == 12)=false)→((o == 7)=true∨((o == 7)=false∧(o == 8)=true))→Calls Tryz.prog 148 #[pointer (some ⟨pb,po,none⟩),pointer (some ⟨fb,fo,none⟩),agg #[int i64 x.op,int i64 x.dst,int i64 x.a,int i64 x.b,int i64 x.n,ar]] w fun e w'=>e=.returned (.bool res)∧zc [] w w':=by
  intro o e o1 o2 o3;rw[e] at KA HN HRT ⊢;clear e;rcases o3 with o7 | ⟨o7,o8⟩
  all_goals (
   go_enter Tryz.func148,Tryz.ntmps148;go_upto_region 7 with fail;generalize w.alloc (.cells #[int i64 o,int i64 x.dst,int i64 x.a,int i64 x.b,int i64 x.n,ar] 39)=WA at *;have q2:=zd HN.o 2;generalize w.heap.size=q at *;go_wp2_with fail;refine HRT.o.mono ?_;rintro e w1 ⟨rfl,k1⟩;have h1:=ze HN.o (k1.quiet (zc.alloc [] w1 (.cells #[int i64 T.1,int i64 T.2] 34)));have q4:=zd h1 4;have hn2:=zf w1 (.cells #[int i64 T.1,int i64 T.2] 34);have K1:=hid ((KA.o.quiet k1).quiet (zc.alloc [] w1 (.cells #[int i64 T.1,int i64 T.2] 34)));have r0:=zd hn2 0;have r1:=zd hn2 1;have HN2:=hid hn2;clear k1 h1 hn2 q2;go_upto_region 8 with fail;generalize w1.alloc (.cells #[int i64 T.1,int i64 T.2] 34)=w2 at *;generalize w1.heap.size=q1 at *;go_wp2_with fail;refine (HFI.o _ K1.o).mono ?_;rintro e w3 ⟨rfl,k3⟩;have h3:=ze HN2.o (k3.quiet (zc.alloc [] w3 (.cells #[int i64 t.1,int i64 t.2] 34)));have s0:=zd h3 0;have K3:=hid ((K1.o.quiet k3).quiet (zc.alloc [] w3 (.cells #[int i64 t.1,int i64 t.2] 34)));clear k3 h3 r0 r1 q4;cases b with
   | true=>
    have HR:Box (res=true):=hid (by rw[HE.o];rfl);go_wp2_with fail;go_ret;exact ⟨by rw[HR.o];rfl,K3.o⟩
   | false=>
    have HR:Box (res=decide (T.1≠1)):=hid (by rw[HE.o,Bool.false_or]);have hd:(T.1 != 1)=decide (T.1≠1):=by by_cases e:T.1=1 <;> simp[e]
    rw[← hd] at HR;clear hd HE;go_wp2_with fail;go_ret
    exact ⟨by rw[HR.o];rfl,K3.o⟩)
 rcases hop with e | e
 ·exact go 7 e rfl rfl (.inl rfl)
 ·exact go 8 e rfl rfl (.inr ⟨rfl,rfl⟩)
theorem zjE(h:PrC w pb po P)(hf:FuC w fb fo f)(x:In8)(ar:Value)(hop:x.op=14):Calls Tryz.prog 148 #[pointer (some ⟨pb,po,none⟩),pointer (some ⟨fb,fo,none⟩),zD x ar] w fun e w'=>e=.returned (.bool (jn P f x))∧zc [] w w':=by
 have HE:Box (jn P f x=((Zu P (zp f x.a) x.n).isSome || decide ((zp f x.a).1≠3))):=hid (by unfold jn;rw[if_neg (by omega),if_neg (by omega),if_pos hop]);have ka:=zc.alloc [] w (.cells #[int i64 x.op,int i64 x.dst,int i64 x.a,int i64 x.b,int i64 x.n,ar] 39);have hn:=zf w (.cells #[int i64 x.op,int i64 x.dst,int i64 x.a,int i64 x.b,int i64 x.n,ar] 39);have HRT:=hid (zA (FuC.stays _ _ _ _ _ ka hf) x.a);have HFI:=hid fun (w':World) (k:zc [] w w')=>zcc h k (zp f x.a) x.n;have KA:=hid ka;have HN:=hid hn;clear h hf ka hn;unfold zD;generalize jn P f x=res at *;generalize Zu P (zp f x.a) x.n=O at *;generalize zp f x.a=T at *;rw[hop] at KA HN HRT ⊢;go_enter Tryz.func148,Tryz.ntmps148;go_upto_region 11 with fail;generalize w.alloc (.cells #[int i64 14,int i64 x.dst,int i64 x.a,int i64 x.b,int i64 x.n,ar] 39)=WA at *;have q2:=zd HN.o 2;generalize w.heap.size=q at *;go_wp2_with fail;refine HRT.o.mono ?_;rintro e w1 ⟨rfl,k1⟩;have h1:=ze HN.o (k1.quiet (zc.alloc [] w1 (.cells #[int i64 T.1,int i64 T.2] 34)));have q4:=zd h1 4;have hn2:=zf w1 (.cells #[int i64 T.1,int i64 T.2] 34);have K1:=hid ((KA.o.quiet k1).quiet (zc.alloc [] w1 (.cells #[int i64 T.1,int i64 T.2] 34)));have r0:=zd hn2 0;have r1:=zd hn2 1;have HN2:=hid hn2;clear k1 h1 hn2 q2;go_upto_region 12 with fail;generalize w1.alloc (.cells #[int i64 T.1,int i64 T.2] 34)=w2 at *;generalize w1.heap.size=q1 at *;go_wp2_with fail;refine (HFI.o _ K1.o).mono ?_;cases O with
 | none=>
  rintro e w3 ⟨k3,rfl⟩;have h3:=ze HN2.o (k3.quiet (zc.alloc [] w3 (.cells #[.slice none 0 0,int i64 0,int i64 0] 36)));have s0:=zd h3 0;have K3:=hid ((K1.o.quiet k3).quiet (zc.alloc [] w3 (.cells #[.slice none 0 0,int i64 0,int i64 0] 36)));clear k3 h3 r0 r1 q4;have HR:Box (res=decide (T.1≠3)):=hid (by rw[HE.o,Option.isSome_none,Bool.false_or]);have hd:(T.1 != 3)=decide (T.1≠3):=by by_cases e:T.1=3 <;> simp[e]
  rw[← hd] at HR;clear hd HE;go_wp2_with fail;go_ret;exact ⟨by rw[HR.o];rfl,K3.o⟩
 | some sg=>
  rintro e w3 ⟨k3,v,rfl,ga,gp,rfl,_⟩;have h3:=ze HN2.o (k3.quiet (zc.alloc [] w3 (.cells #[.slice ga sg.1.length gp,int i64 sg.2.1,int i64 sg.2.2] 36)));have s0:=zd h3 0;have K3:=hid ((K1.o.quiet k3).quiet (zc.alloc [] w3 (.cells #[.slice ga sg.1.length gp,int i64 sg.2.1,int i64 sg.2.2] 36)));clear k3 h3 r0 r1 q4;have HR:Box (res=true):=hid (by rw[HE.o];rfl);go_wp2_with fail;go_ret;exact ⟨by rw[HR.o];rfl,K3.o⟩
theorem znB(x:In8)(ar:Value)(h1:¬ (x.op=10∨x.op=12))(h2:¬ (x.op=7∨x.op=8))(h3:¬ x.op=14):Calls Tryz.prog 148 #[pointer (some ⟨pb,po,none⟩),pointer (some ⟨fb,fo,none⟩),zD x ar] w fun e w'=>e=.returned (.bool (jn P f x))∧zc [] w w':=by
 have HE:Box (jn P f x=true):=hid (by unfold jn;rw[if_neg h1,if_neg h2,if_neg h3]);have o10:=neb (show x.op≠10 by omega);have o12:=neb (show x.op≠12 by omega);have o7:=neb (show x.op≠7 by omega);have o8:=neb (show x.op≠8 by omega);have o14:=neb (show x.op≠14 by omega);clear h1 h2 h3;unfold zD;go_enter Tryz.func148,Tryz.ntmps148;go_wp2_with fail;go_ret;exact ⟨by rw[HE.o];rfl,zc.alloc _ _ _⟩
theorem znp(h:PrC w pb po P)(hf:FuC w fb fo f)(x:In8)(ar:Value):Calls Tryz.prog 148 #[pointer (some ⟨pb,po,none⟩),pointer (some ⟨fb,fo,none⟩),zD x ar] w fun e w'=>e=.returned (.bool (jn P f x))∧zc [] w w':=by
 by_cases h1:x.op=10∨x.op=12
 ·exact zmR h x ar h1
 by_cases h2:x.op=7∨x.op=8
 ·exact zhq h hf x ar h2
 by_cases h3:x.op=14
 ·exact zjE h hf x ar h3
 exact znB x ar h1 h2 h3
end Go.Proofs.YtkgoimokgbdgfaaGreatDoor
