/-
    run of layer 14: a machine goes on to its end.

-/
import Derived.Test.YtgmbkiagdhjpnaaGreatDoorU24
import Derived.Test.YtgmbkiagdhjpnaaGreatDoorU38

namespace Go.Proofs.YtgmbkiagdhjpnaaGreatDoor
open Go.RowKit
open Go.Value (int pointer agg)
open Go.IntKind (i64)
set_option maxRecDepth 20000
set_option maxHeartbeats 4000000
theorem zmH{w:World}{pp:Nat}{P:Pr8}{a:Option Addr}{cp:Nat}{l:List Int}(h:PrC w pp 0 P)(hg:zbq w)(hT:jb w)(ok:wfO P=none)(hs:Sm8 P)(ho:zq w 1 zI a l)(hl:l.length≤1000000):
  Calls Tryz.prog 38 #[pointer (some ⟨pp,0,none⟩),.slice a l.length cp] w fun e w'=>∃ mp F,e=.returned (.tuple #[pointer (some ⟨mp,0,none⟩),int i64 (Zi P 3000 (ma0 P l)).1])∧Q4 w' mp P (Zi P 3000 (ma0 P l)).2 F∧za [] w w'∧Inv P (Zi P 3000 (ma0 P l)).2:=by
 have W:=hid (zfC ok);have HN:=hid (zcs (cp:=cp) h hg hT ok ho hl);have I0:=hid (znb W.o l);obtain ⟨R,hR⟩:∃ R,R=Zi P 3000 (ma0 P l):=⟨_,rfl⟩;rw[← hR];have HR:=hid hR;generalize ma0 P l=m0 at *;generalize l.length=ln at *;clear h hg hT ok ho hl hR;go_enter Tryz.func38,Tryz.ntmps38;go_wp2_with fail;refine HN.o.mono ?_;rintro e w1 ⟨mp,F1,rfl,m1,k1,n1⟩;have M1:=hid m1;have K1:=hid k1;have N1:=hid n1;clear m1 k1 n1 HN;go_wp2_with fail
 go_loopw [7,8] (fun iv _ wr=>∃ (k:Nat) (m:Ma) (F:List Nat),k≤3000∧iv=int i64 (k:Int)∧Box (Q4 wr mp P m F)∧Box (Inv P m)∧Box (za [] w wr)∧Box (∀ x,x∈F→w.heap.size≤x)∧Box (R=Zi P (3000 - k) m)) (fun iv _ _=>3000 - (intOf iv).toNat)
 case atStart=>exact ⟨0,m0,F1,by omega,rfl,M1,I0,K1,N1,HR⟩
 case round=>
  obtain ⟨k,m,F,hk,rfl,HM,HI,HK,HF,HE⟩:=hrel;clear M1 I0 K1 N1 HR;by_cases hlt:k<3000
  ·have hlt':(k:Int)<3000:=by omega
   go_wp2_with fail;refine (Zu W.o HI.o hs HM.o).mono ?_;rintro e w2 ⟨F2,rfl,m2,k2,n2⟩;have M2:=hid m2;have K2:=hid (HK.o.step9 k2 HF.o);have N2:Box (∀ x,x∈F2→w.heap.size≤x):=hid (n2.up9 HK.o HF.o);have I2:=hid (HI.o.step W.o)
   have E2:Box (R=if (zS P m).1=0 then Zi P (3000 - (k+1)) (zS P m).2 else zS P m):=hid (by
    have:=HE.o;rw[show 3000 - k=(3000 - (k+1))+1 by omega,Zi] at this
    exact this)
   clear m2 k2 n2 HM HI HK HF HE;generalize zS P m=r at *;obtain ⟨y,m'⟩:=r;have I2:Box (Inv P m'):=I2;have M2:Box (Q4 w2 mp P m' F2):=M2;by_cases hy:y=0
   ·subst hy
    have E3:Box (R=Zi P (3000 - (k+1)) m'):=hid (by rw[E2.o];exact if_pos rfl);clear E2;go_wp2_with fail;go_roundw
    case rel=>exact ⟨k+1,m',F2,by omega,by go_num,M2,I2,K2,N2,E3⟩
    case measure=>simp[intOf];omega
   ·have hyb:(y != 0)=true:=by simp[hy]
    have E3:Box (R=(y,m')):=hid (by rw[E2.o];exact if_neg hy);clear E2;go_wp2_with fail;rw[E3.o];exact bodyPost_ret (v:=.tuple #[pointer (some ⟨mp,0,none⟩),int i64 y]) (by simp[results,Tryz.results38,go_sem]) rfl ⟨mp,F2,rfl,M2.o,K2.o,I2.o⟩
  ·obtain rfl:k=3000:=by omega
   have E3:Box (R=(0,m)):=hid HE.o;clear HE;go_wp2_with fail;rw[E3.o];exact bodyPost_ret (v:=.tuple #[pointer (some ⟨mp,0,none⟩),int i64 0]) (by simp[results,Tryz.results38,go_sem]) rfl ⟨mp,F,rfl,HM.o,HK.o,HI.o⟩
end Go.Proofs.YtgmbkiagdhjpnaaGreatDoor
