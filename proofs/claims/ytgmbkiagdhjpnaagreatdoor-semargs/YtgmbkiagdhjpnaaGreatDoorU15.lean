import Derived.Test.YtgmbkiagdhjpnaaGreatDoorU10

namespace Go.Proofs.YtgmbkiagdhjpnaaGreatDoor
open Go.RowKit
open Go.Value (int pointer agg)
open Go.IntKind (i64)
set_option maxRecDepth 20000
set_option maxHeartbeats 4000000
variable {P:Pr8}{v:Value}{w w':World}{x:Fu8}
theorem zdk{l:List In8}(hx:zjF w v l)(m:Nat)(g:In8→Bool)(hm:m≤100)(hg:∀ w' v y,za [] w w'→InV w v y→Calls Tryz.prog 215 #[v] w' fun e w2=>e=.returned (.bool (g y))∧za [] w' w2):
  Calls Tryz.prog 214 #[v,int i64 (m:Int),.func (.func 215) #[] #[]] w fun e w'=>e=.returned (.bool (qA l m g))∧za [] w w':=by
 obtain ⟨a,cp,rfl,hr,_,hl⟩:=hx;have HP:=hid hg;have HR:=hid hr;obtain ⟨n,hn⟩:∃ n,n=l.length:=⟨_,rfl⟩;rw[← hn];have HL:=hid hn;clear hg hr hl hn;by_cases hlong:m<n
 ·have hl':(m:Int)<(n:Int):=by omega
  have HE:=hid (qR (g:=g) (show m<l.length by rw[← HL.o];exact hlong));generalize qA l m g=res at *;clear hlong;go_enter Tryz.func214,Tryz.ntmps214;go_wp2;go_ret;exact ⟨by rw[HE.o];rfl,za.refl _ _⟩
 ·have hl':¬ (m:Int)<(n:Int):=by omega
  have hn1:(n:Int)≤100:=by omega
  have HM:Box (l.length≤m):=hid (by rw[← HL.o];omega);clear hlong;go_enter Tryz.func214,Tryz.ntmps214;go_wp2_with fail
  go_loopw [14] (fun kv wr=>∃ k:Nat,k≤n∧kv=int i64 (k:Int)∧Box (za [] w wr∧∀ j y,j<k→l[j]? = some y→g y=true)) (fun kv _=>n - (intOf kv).toNat)
  case atStart=>exact ⟨0,by omega,rfl,hid ⟨za.refl _ _,fun j y hj=>by omega⟩⟩
  case round=>
   obtain ⟨k,hk,rfl,HB⟩:=hrel;have HK:=hid HB.o.1;by_cases hlt:k<n
   ·have hlt':(k:Int)<(n:Int):=by omega
    obtain ⟨y,hy⟩:∃ y,l[k]? = some y:=⟨_,List.getElem?_eq_getElem (by rw[← HL.o];exact hlt)⟩;obtain ⟨b,off,rfl,hc⟩:=HR.o.at hy
    skip
    obtain ⟨ar,acp,h5,q5⟩:=SlC.val hc.c5;have d0:=zb HK.o hc.c0.1;have d1:=zb HK.o hc.c1.1;have d2:=zb HK.o hc.c2.1;have d3:=zb HK.o hc.c3.1;have d4:=zb HK.o hc.c4.1;have d5:=zb HK.o h5;have HC:=hid (HP.o wr (agg #[int i64 y.op,int i64 y.dst,int i64 y.a,int i64 y.b,int i64 y.n,.slice ar y.args.length acp]) y HK.o (⟨ar,acp,rfl,hc.c0.2,hc.c1.2,hc.c2.2,hc.c3.2,hc.c4.2,q5⟩));have HY:=hid hy;clear hc hy h5 q5;cases hgy:g y with
    | true=>
     rw[hgy] at HC;have HG:=hid hgy;clear hgy;go_wp2_with fail;refine HC.o.mono ?_;rintro e w3 ⟨rfl,k3⟩;have K3:=hid (HK.o.quiet k3);clear k3;go_wp2_with fail;go_roundw
     case rel=>exact ⟨k+1,by omega,by go_num,hid ⟨K3.o,fun j z hj hz=>by
      by_cases e:j<k
      ·exact HB.o.2 j z e hz
      ·obtain rfl:j=k:=by omega
       rw[HY.o] at hz;cases hz
       exact HG.o⟩⟩
     case measure=>simp[intOf];omega
    | false=>
     rw[hgy] at HC;have HE:=hid (jx (m:=m) HY.o hgy);clear hgy;go_wp2_with fail;refine HC.o.mono ?_;rintro e w3 ⟨rfl,k3⟩;have K3:=hid (HK.o.quiet k3);clear k3;go_wp2_with fail;go_ret;exact ⟨by rw[HE.o];rfl,K3.o⟩
   ·obtain rfl:k=n:=by omega
    have HE:=hid (qV (g:=g) HM.o (fun j y hy=>HB.o.2 j y (by rw[HL.o];exact (List.getElem?_eq_some_iff.1 hy).1) hy));go_wp2_with fail;go_ret;exact ⟨by rw[HE.o];rfl,HK.o⟩
theorem zdq{l:List Bl8}(hx:zia w v l)(m:Nat)(g:Bl8→Bool)(hm:m≤100)(hg:∀ w' v y,za [] w w'→BlV w v y→Calls Tryz.prog 200 #[v] w' fun e w2=>e=.returned (.bool (g y))∧za [] w' w2):
  Calls Tryz.prog 199 #[v,int i64 (m:Int),.func (.func 200) #[] #[]] w fun e w'=>e=.returned (.bool (qA l m g))∧za [] w w':=by
 obtain ⟨a,cp,rfl,hr,_,hl⟩:=hx;have HP:=hid hg;have HR:=hid hr;obtain ⟨n,hn⟩:∃ n,n=l.length:=⟨_,rfl⟩;rw[← hn];have HL:=hid hn;clear hg hr hl hn;by_cases hlong:m<n
 ·have hl':(m:Int)<(n:Int):=by omega
  have HE:=hid (qR (g:=g) (show m<l.length by rw[← HL.o];exact hlong));generalize qA l m g=res at *;clear hlong;go_enter Tryz.func199,Tryz.ntmps199;go_wp2;go_ret;exact ⟨by rw[HE.o];rfl,za.refl _ _⟩
 ·have hl':¬ (m:Int)<(n:Int):=by omega
  have hn1:(n:Int)≤100:=by omega
  have HM:Box (l.length≤m):=hid (by rw[← HL.o];omega);clear hlong;go_enter Tryz.func199,Tryz.ntmps199;go_wp2_with fail
  go_loopw [14] (fun kv wr=>∃ k:Nat,k≤n∧kv=int i64 (k:Int)∧Box (za [] w wr∧∀ j y,j<k→l[j]? = some y→g y=true)) (fun kv _=>n - (intOf kv).toNat)
  case atStart=>exact ⟨0,by omega,rfl,hid ⟨za.refl _ _,fun j y hj=>by omega⟩⟩
  case round=>
   obtain ⟨k,hk,rfl,HB⟩:=hrel;have HK:=hid HB.o.1;by_cases hlt:k<n
   ·have hlt':(k:Int)<(n:Int):=by omega
    obtain ⟨y,hy⟩:∃ y,l[k]? = some y:=⟨_,List.getElem?_eq_getElem (by rw[← HL.o];exact hlt)⟩;obtain ⟨b,off,rfl,hc⟩:=HR.o.at hy
    skip
    obtain ⟨ar,acp,h5,q5⟩:=hc.c0.val;have d0:=zb HK.o hc.c1.1;have d1:=zb HK.o hc.c2.1;have d2:=zb HK.o hc.c3.1;have d3:=zb HK.o hc.c4.1;have d4:=zb HK.o h5;have HC:=hid (HP.o wr (agg #[.slice ar y.code.length acp,int i64 y.fin,int i64 y.reg,int i64 y.to,int i64 y.els]) y HK.o (⟨ar,acp,rfl,q5,hc.c1.2,hc.c2.2,hc.c3.2,hc.c4.2⟩));have HY:=hid hy;clear hc hy h5 q5;cases hgy:g y with
    | true=>
     rw[hgy] at HC;have HG:=hid hgy;clear hgy;go_wp2_with fail;refine HC.o.mono ?_;rintro e w3 ⟨rfl,k3⟩;have K3:=hid (HK.o.quiet k3);clear k3;go_wp2_with fail;go_roundw
     case rel=>exact ⟨k+1,by omega,by go_num,hid ⟨K3.o,fun j z hj hz=>by
      by_cases e:j<k
      ·exact HB.o.2 j z e hz
      ·obtain rfl:j=k:=by omega
       rw[HY.o] at hz;cases hz
       exact HG.o⟩⟩
     case measure=>simp[intOf];omega
    | false=>
     rw[hgy] at HC;have HE:=hid (jx (m:=m) HY.o hgy);clear hgy;go_wp2_with fail;refine HC.o.mono ?_;rintro e w3 ⟨rfl,k3⟩;have K3:=hid (HK.o.quiet k3);clear k3;go_wp2_with fail;go_ret;exact ⟨by rw[HE.o];rfl,K3.o⟩
   ·obtain rfl:k=n:=by omega
    have HE:=hid (qV (g:=g) HM.o (fun j y hy=>HB.o.2 j y (by rw[HL.o];exact (List.getElem?_eq_some_iff.1 hy).1) hy));go_wp2_with fail;go_ret;exact ⟨by rw[HE.o];rfl,HK.o⟩
theorem zeI{l:List Fu8}(hx:SlV 3 FuC w v l)(m:Nat)(g:Fu8→Bool)(hm:m≤100)(hg:∀ w' v y,za [] w w'→FuV w v y→Calls Tryz.prog 164 #[v] w' fun e w2=>e=.returned (.bool (g y))∧za [] w' w2):
  Calls Tryz.prog 163 #[v,int i64 (m:Int),.func (.func 164) #[] #[]] w fun e w'=>e=.returned (.bool (qA l m g))∧za [] w w':=by
 obtain ⟨a,cp,rfl,hr,_,hl⟩:=hx;have HP:=hid hg;have HR:=hid hr;obtain ⟨n,hn⟩:∃ n,n=l.length:=⟨_,rfl⟩;rw[← hn];have HL:=hid hn;clear hg hr hl hn;by_cases hlong:m<n
 ·have hl':(m:Int)<(n:Int):=by omega
  have HE:=hid (qR (g:=g) (show m<l.length by rw[← HL.o];exact hlong));generalize qA l m g=res at *;clear hlong;go_enter Tryz.func163,Tryz.ntmps163;go_wp2;go_ret;exact ⟨by rw[HE.o];rfl,za.refl _ _⟩
 ·have hl':¬ (m:Int)<(n:Int):=by omega
  have hn1:(n:Int)≤100:=by omega
  have HM:Box (l.length≤m):=hid (by rw[← HL.o];omega);clear hlong;go_enter Tryz.func163,Tryz.ntmps163;go_wp2_with fail
  go_loopw [14] (fun kv wr=>∃ k:Nat,k≤n∧kv=int i64 (k:Int)∧Box (za [] w wr∧∀ j y,j<k→l[j]? = some y→g y=true)) (fun kv _=>n - (intOf kv).toNat)
  case atStart=>exact ⟨0,by omega,rfl,hid ⟨za.refl _ _,fun j y hj=>by omega⟩⟩
  case round=>
   obtain ⟨k,hk,rfl,HB⟩:=hrel;have HK:=hid HB.o.1;by_cases hlt:k<n
   ·have hlt':(k:Int)<(n:Int):=by omega
    obtain ⟨y,hy⟩:∃ y,l[k]? = some y:=⟨_,List.getElem?_eq_getElem (by rw[← HL.o];exact hlt)⟩;obtain ⟨b,off,rfl,hc⟩:=HR.o.at hy
    skip
    obtain ⟨ar,acp,h5,q5⟩:=hc.c1.val;obtain ⟨br,bcp,h6,q6⟩:=hc.c2.val;have d0:=zb HK.o hc.c0.1;have d1:=zb HK.o h5;have d2:=zb HK.o h6;have HC:=hid (HP.o wr (agg #[int i64 y.sig,.slice ar y.regs.length acp,.slice br y.blocks.length bcp]) y HK.o (⟨ar,acp,br,bcp,rfl,hc.c0.2,q5,q6⟩));have HY:=hid hy;clear hc hy h5 q5 h6 q6;cases hgy:g y with
    | true=>
     rw[hgy] at HC;have HG:=hid hgy;clear hgy;go_wp2_with fail;refine HC.o.mono ?_;rintro e w3 ⟨rfl,k3⟩;have K3:=hid (HK.o.quiet k3);clear k3;go_wp2_with fail;go_roundw
     case rel=>exact ⟨k+1,by omega,by go_num,hid ⟨K3.o,fun j z hj hz=>by
      by_cases e:j<k
      ·exact HB.o.2 j z e hz
      ·obtain rfl:j=k:=by omega
       rw[HY.o] at hz;cases hz
       exact HG.o⟩⟩
     case measure=>simp[intOf];omega
    | false=>
     rw[hgy] at HC;have HE:=hid (jx (m:=m) HY.o hgy);clear hgy;go_wp2_with fail;refine HC.o.mono ?_;rintro e w3 ⟨rfl,k3⟩;have K3:=hid (HK.o.quiet k3);clear k3;go_wp2_with fail;go_ret;exact ⟨by rw[HE.o];rfl,K3.o⟩
   ·obtain rfl:k=n:=by omega
    have HE:=hid (qV (g:=g) HM.o (fun j y hy=>HB.o.2 j y (by rw[HL.o];exact (List.getElem?_eq_some_iff.1 hy).1) hy));go_wp2_with fail;go_ret;exact ⟨by rw[HE.o];rfl,HK.o⟩
theorem zhF{l:List (List (Int × Int))}(hx:SlV 1 (SlC 2 TyC) w v l)(m:Nat)(g:(List (Int × Int))→Bool)(hm:m≤100)(hg:∀ w' v y,za [] w w'→QO w v y→Calls Tryz.prog 156 #[v] w' fun e w2=>e=.returned (.bool (g y))∧za [] w' w2):
  Calls Tryz.prog 155 #[v,int i64 (m:Int),.func (.func 156) #[] #[]] w fun e w'=>e=.returned (.bool (qA l m g))∧za [] w w':=by
 obtain ⟨a,cp,rfl,hr,_,hl⟩:=hx;have HP:=hid hg;have HR:=hid hr;obtain ⟨n,hn⟩:∃ n,n=l.length:=⟨_,rfl⟩;rw[← hn];have HL:=hid hn;clear hg hr hl hn;by_cases hlong:m<n
 ·have hl':(m:Int)<(n:Int):=by omega
  have HE:=hid (qR (g:=g) (show m<l.length by rw[← HL.o];exact hlong));generalize qA l m g=res at *;clear hlong;go_enter Tryz.func155,Tryz.ntmps155;go_wp2;go_ret;exact ⟨by rw[HE.o];rfl,za.refl _ _⟩
 ·have hl':¬ (m:Int)<(n:Int):=by omega
  have hn1:(n:Int)≤100:=by omega
  have HM:Box (l.length≤m):=hid (by rw[← HL.o];omega);clear hlong;go_enter Tryz.func155,Tryz.ntmps155;go_wp2_with fail
  go_loopw [14] (fun kv wr=>∃ k:Nat,k≤n∧kv=int i64 (k:Int)∧Box (za [] w wr∧∀ j y,j<k→l[j]? = some y→g y=true)) (fun kv _=>n - (intOf kv).toNat)
  case atStart=>exact ⟨0,by omega,rfl,hid ⟨za.refl _ _,fun j y hj=>by omega⟩⟩
  case round=>
   obtain ⟨k,hk,rfl,HB⟩:=hrel;have HK:=hid HB.o.1;by_cases hlt:k<n
   ·have hlt':(k:Int)<(n:Int):=by omega
    obtain ⟨y,hy⟩:∃ y,l[k]? = some y:=⟨_,List.getElem?_eq_getElem (by rw[← HL.o];exact hlt)⟩;obtain ⟨b,off,rfl,hc⟩:=HR.o.at hy;rw[Nat.mul_one] at hc;obtain ⟨ar,acp,h5,q5⟩:=hc.val;have d0:=zb HK.o h5;have HC:=hid (HP.o wr (.slice ar y.length acp) y HK.o (q5));have HY:=hid hy;clear hc hy h5 q5;cases hgy:g y with
    | true=>
     rw[hgy] at HC;have HG:=hid hgy;clear hgy;go_wp2_with fail;refine HC.o.mono ?_;rintro e w3 ⟨rfl,k3⟩;have K3:=hid (HK.o.quiet k3);clear k3;go_wp2_with fail;go_roundw
     case rel=>exact ⟨k+1,by omega,by go_num,hid ⟨K3.o,fun j z hj hz=>by
      by_cases e:j<k
      ·exact HB.o.2 j z e hz
      ·obtain rfl:j=k:=by omega
       rw[HY.o] at hz;cases hz
       exact HG.o⟩⟩
     case measure=>simp[intOf];omega
    | false=>
     rw[hgy] at HC;have HE:=hid (jx (m:=m) HY.o hgy);clear hgy;go_wp2_with fail;refine HC.o.mono ?_;rintro e w3 ⟨rfl,k3⟩;have K3:=hid (HK.o.quiet k3);clear k3;go_wp2_with fail;go_ret;exact ⟨by rw[HE.o];rfl,K3.o⟩
   ·obtain rfl:k=n:=by omega
    have HE:=hid (qV (g:=g) HM.o (fun j y hy=>HB.o.2 j y (by rw[HL.o];exact (List.getElem?_eq_some_iff.1 hy).1) hy));go_wp2_with fail;go_ret;exact ⟨by rw[HE.o];rfl,HK.o⟩
theorem zgz{l:List (List (Int × Int) × Int × Int)}(hx:SlV 3 SgC w v l)(m:Nat)(g:(List (Int × Int) × Int × Int)→Bool)(hm:m≤100)(hg:∀ w' v y,za [] w w'→SgV w v y→Calls Tryz.prog 158 #[v] w' fun e w2=>e=.returned (.bool (g y))∧za [] w' w2):
  Calls Tryz.prog 157 #[v,int i64 (m:Int),.func (.func 158) #[] #[]] w fun e w'=>e=.returned (.bool (qA l m g))∧za [] w w':=by
 obtain ⟨a,cp,rfl,hr,_,hl⟩:=hx;have HP:=hid hg;have HR:=hid hr;obtain ⟨n,hn⟩:∃ n,n=l.length:=⟨_,rfl⟩;rw[← hn];have HL:=hid hn;clear hg hr hl hn;by_cases hlong:m<n
 ·have hl':(m:Int)<(n:Int):=by omega
  have HE:=hid (qR (g:=g) (show m<l.length by rw[← HL.o];exact hlong));generalize qA l m g=res at *;clear hlong;go_enter Tryz.func157,Tryz.ntmps157;go_wp2;go_ret;exact ⟨by rw[HE.o];rfl,za.refl _ _⟩
 ·have hl':¬ (m:Int)<(n:Int):=by omega
  have hn1:(n:Int)≤100:=by omega
  have HM:Box (l.length≤m):=hid (by rw[← HL.o];omega);clear hlong;go_enter Tryz.func157,Tryz.ntmps157;go_wp2_with fail
  go_loopw [14] (fun kv wr=>∃ k:Nat,k≤n∧kv=int i64 (k:Int)∧Box (za [] w wr∧∀ j y,j<k→l[j]? = some y→g y=true)) (fun kv _=>n - (intOf kv).toNat)
  case atStart=>exact ⟨0,by omega,rfl,hid ⟨za.refl _ _,fun j y hj=>by omega⟩⟩
  case round=>
   obtain ⟨k,hk,rfl,HB⟩:=hrel;have HK:=hid HB.o.1;by_cases hlt:k<n
   ·have hlt':(k:Int)<(n:Int):=by omega
    obtain ⟨y,hy⟩:∃ y,l[k]? = some y:=⟨_,List.getElem?_eq_getElem (by rw[← HL.o];exact hlt)⟩;obtain ⟨b,off,rfl,hc⟩:=HR.o.at hy
    skip
    obtain ⟨ar,acp,h5,q5⟩:=hc.c0.val;have d0:=zb HK.o hc.c1.1;have d1:=zb HK.o hc.c2.1;have d2:=zb HK.o h5;have HC:=hid (HP.o wr (agg #[.slice ar y.1.length acp,int i64 y.2.1,int i64 y.2.2]) y HK.o (⟨ar,acp,rfl,q5,hc.c1.2,hc.c2.2⟩));have HY:=hid hy;clear hc hy h5 q5;cases hgy:g y with
    | true=>
     rw[hgy] at HC;have HG:=hid hgy;clear hgy;go_wp2_with fail;refine HC.o.mono ?_;rintro e w3 ⟨rfl,k3⟩;have K3:=hid (HK.o.quiet k3);clear k3;go_wp2_with fail;go_roundw
     case rel=>exact ⟨k+1,by omega,by go_num,hid ⟨K3.o,fun j z hj hz=>by
      by_cases e:j<k
      ·exact HB.o.2 j z e hz
      ·obtain rfl:j=k:=by omega
       rw[HY.o] at hz;cases hz
       exact HG.o⟩⟩
     case measure=>simp[intOf];omega
    | false=>
     rw[hgy] at HC;have HE:=hid (jx (m:=m) HY.o hgy);clear hgy;go_wp2_with fail;refine HC.o.mono ?_;rintro e w3 ⟨rfl,k3⟩;have K3:=hid (HK.o.quiet k3);clear k3;go_wp2_with fail;go_ret;exact ⟨by rw[HE.o];rfl,K3.o⟩
   ·obtain rfl:k=n:=by omega
    have HE:=hid (qV (g:=g) HM.o (fun j y hy=>HB.o.2 j y (by rw[HL.o];exact (List.getElem?_eq_some_iff.1 hy).1) hy));go_wp2_with fail;go_ret;exact ⟨by rw[HE.o];rfl,HK.o⟩
theorem zdf{l:List (List Int)}(hx:SlV 1 jH w v l)(m:Nat)(g:(List Int)→Bool)(hm:m≤100)(hg:∀ w' v y,za [] w w'→IfV w v y→Calls Tryz.prog 160 #[v] w' fun e w2=>e=.returned (.bool (g y))∧za [] w' w2):
  Calls Tryz.prog 159 #[v,int i64 (m:Int),.func (.func 160) #[] #[]] w fun e w'=>e=.returned (.bool (qA l m g))∧za [] w w':=by
 obtain ⟨a,cp,rfl,hr,_,hl⟩:=hx;have HP:=hid hg;have HR:=hid hr;obtain ⟨n,hn⟩:∃ n,n=l.length:=⟨_,rfl⟩;rw[← hn];have HL:=hid hn;clear hg hr hl hn;by_cases hlong:m<n
 ·have hl':(m:Int)<(n:Int):=by omega
  have HE:=hid (qR (g:=g) (show m<l.length by rw[← HL.o];exact hlong));generalize qA l m g=res at *;clear hlong;go_enter Tryz.func159,Tryz.ntmps159;go_wp2;go_ret;exact ⟨by rw[HE.o];rfl,za.refl _ _⟩
 ·have hl':¬ (m:Int)<(n:Int):=by omega
  have hn1:(n:Int)≤100:=by omega
  have HM:Box (l.length≤m):=hid (by rw[← HL.o];omega);clear hlong;go_enter Tryz.func159,Tryz.ntmps159;go_wp2_with fail
  go_loopw [14] (fun kv wr=>∃ k:Nat,k≤n∧kv=int i64 (k:Int)∧Box (za [] w wr∧∀ j y,j<k→l[j]? = some y→g y=true)) (fun kv _=>n - (intOf kv).toNat)
  case atStart=>exact ⟨0,by omega,rfl,hid ⟨za.refl _ _,fun j y hj=>by omega⟩⟩
  case round=>
   obtain ⟨k,hk,rfl,HB⟩:=hrel;have HK:=hid HB.o.1;by_cases hlt:k<n
   ·have hlt':(k:Int)<(n:Int):=by omega
    obtain ⟨y,hy⟩:∃ y,l[k]? = some y:=⟨_,List.getElem?_eq_getElem (by rw[← HL.o];exact hlt)⟩;obtain ⟨b,off,rfl,hc⟩:=HR.o.at hy;rw[Nat.mul_one] at hc;obtain ⟨ar,acp,h5,q5⟩:=SlC.val hc;have d0:=zb HK.o h5;have HC:=hid (HP.o wr (agg #[.slice ar y.length acp]) y HK.o (⟨ar,acp,rfl,q5⟩));have HY:=hid hy;clear hc hy h5 q5;cases hgy:g y with
    | true=>
     rw[hgy] at HC;have HG:=hid hgy;clear hgy;go_wp2_with fail;refine HC.o.mono ?_;rintro e w3 ⟨rfl,k3⟩;have K3:=hid (HK.o.quiet k3);clear k3;go_wp2_with fail;go_roundw
     case rel=>exact ⟨k+1,by omega,by go_num,hid ⟨K3.o,fun j z hj hz=>by
      by_cases e:j<k
      ·exact HB.o.2 j z e hz
      ·obtain rfl:j=k:=by omega
       rw[HY.o] at hz;cases hz
       exact HG.o⟩⟩
     case measure=>simp[intOf];omega
    | false=>
     rw[hgy] at HC;have HE:=hid (jx (m:=m) HY.o hgy);clear hgy;go_wp2_with fail;refine HC.o.mono ?_;rintro e w3 ⟨rfl,k3⟩;have K3:=hid (HK.o.quiet k3);clear k3;go_wp2_with fail;go_ret;exact ⟨by rw[HE.o];rfl,K3.o⟩
   ·obtain rfl:k=n:=by omega
    have HE:=hid (qV (g:=g) HM.o (fun j y hy=>HB.o.2 j y (by rw[HL.o];exact (List.getElem?_eq_some_iff.1 hy).1) hy));go_wp2_with fail;go_ret;exact ⟨by rw[HE.o];rfl,HK.o⟩
theorem zfy{l:List (Int × Int × List Int)}(hx:SlV 3 ImC w v l)(m:Nat)(g:(Int × Int × List Int)→Bool)(hm:m≤100)(hg:∀ w' v y,za [] w w'→ImV w v y→Calls Tryz.prog 162 #[v] w' fun e w2=>e=.returned (.bool (g y))∧za [] w' w2):
  Calls Tryz.prog 161 #[v,int i64 (m:Int),.func (.func 162) #[] #[]] w fun e w'=>e=.returned (.bool (qA l m g))∧za [] w w':=by
 obtain ⟨a,cp,rfl,hr,_,hl⟩:=hx;have HP:=hid hg;have HR:=hid hr;obtain ⟨n,hn⟩:∃ n,n=l.length:=⟨_,rfl⟩;rw[← hn];have HL:=hid hn;clear hg hr hl hn;by_cases hlong:m<n
 ·have hl':(m:Int)<(n:Int):=by omega
  have HE:=hid (qR (g:=g) (show m<l.length by rw[← HL.o];exact hlong));generalize qA l m g=res at *;clear hlong;go_enter Tryz.func161,Tryz.ntmps161;go_wp2;go_ret;exact ⟨by rw[HE.o];rfl,za.refl _ _⟩
 ·have hl':¬ (m:Int)<(n:Int):=by omega
  have hn1:(n:Int)≤100:=by omega
  have HM:Box (l.length≤m):=hid (by rw[← HL.o];omega);clear hlong;go_enter Tryz.func161,Tryz.ntmps161;go_wp2_with fail
  go_loopw [14] (fun kv wr=>∃ k:Nat,k≤n∧kv=int i64 (k:Int)∧Box (za [] w wr∧∀ j y,j<k→l[j]? = some y→g y=true)) (fun kv _=>n - (intOf kv).toNat)
  case atStart=>exact ⟨0,by omega,rfl,hid ⟨za.refl _ _,fun j y hj=>by omega⟩⟩
  case round=>
   obtain ⟨k,hk,rfl,HB⟩:=hrel;have HK:=hid HB.o.1;by_cases hlt:k<n
   ·have hlt':(k:Int)<(n:Int):=by omega
    obtain ⟨y,hy⟩:∃ y,l[k]? = some y:=⟨_,List.getElem?_eq_getElem (by rw[← HL.o];exact hlt)⟩;obtain ⟨b,off,rfl,hc⟩:=HR.o.at hy
    skip
    obtain ⟨ar,acp,h5,q5⟩:=SlC.val hc.c2;have d0:=zb HK.o hc.c0.1;have d1:=zb HK.o hc.c1.1;have d2:=zb HK.o h5;have HC:=hid (HP.o wr (agg #[int i64 y.1,int i64 y.2.1,.slice ar y.2.2.length acp]) y HK.o (⟨ar,acp,rfl,hc.c0.2,hc.c1.2,q5⟩));have HY:=hid hy;clear hc hy h5 q5;cases hgy:g y with
    | true=>
     rw[hgy] at HC;have HG:=hid hgy;clear hgy;go_wp2_with fail;refine HC.o.mono ?_;rintro e w3 ⟨rfl,k3⟩;have K3:=hid (HK.o.quiet k3);clear k3;go_wp2_with fail;go_roundw
     case rel=>exact ⟨k+1,by omega,by go_num,hid ⟨K3.o,fun j z hj hz=>by
      by_cases e:j<k
      ·exact HB.o.2 j z e hz
      ·obtain rfl:j=k:=by omega
       rw[HY.o] at hz;cases hz
       exact HG.o⟩⟩
     case measure=>simp[intOf];omega
    | false=>
     rw[hgy] at HC;have HE:=hid (jx (m:=m) HY.o hgy);clear hgy;go_wp2_with fail;refine HC.o.mono ?_;rintro e w3 ⟨rfl,k3⟩;have K3:=hid (HK.o.quiet k3);clear k3;go_wp2_with fail;go_ret;exact ⟨by rw[HE.o];rfl,K3.o⟩
   ·obtain rfl:k=n:=by omega
    have HE:=hid (qV (g:=g) HM.o (fun j y hy=>HB.o.2 j y (by rw[HL.o];exact (List.getElem?_eq_some_iff.1 hy).1) hy));go_wp2_with fail;go_ret;exact ⟨by rw[HE.o];rfl,HK.o⟩
theorem zcU{y:In8}(h:InV w v y):Calls Tryz.prog 215 #[v] w' fun e w2=>e=.returned (.bool (zfU y))∧za [] w' w2:=by
 obtain ⟨a,cp,rfl,_⟩:=h;have hd:(decide ((y.args.length:Int)≤4))=zfU y:=by
  show _=decide _
  congr 1
  exact propext ⟨fun h=>by omega,fun h=>by omega⟩
 have HD:=hid hd;clear hd;generalize zfU y=res at *;generalize y.args.length=n at *;go_enter Tryz.func215,Tryz.ntmps215;go_wp2;go_ret;exact ⟨by first | (rw[← HD.o];rfl) | (rw[← HD.o];simp),by first | exact za.refl _ _ | exact za.alloc _ _ _⟩
theorem zgh{y:List (Int × Int)}(h:QO w v y):Calls Tryz.prog 156 #[v] w' fun e w2=>e=.returned (.bool (zhO y))∧za [] w' w2:=by
 obtain ⟨a,cp,rfl,_⟩:=h;have hd:(decide ((y.length:Int)≤4))=zhO y:=by
  show _=decide _
  congr 1
  exact propext ⟨fun h=>by omega,fun h=>by omega⟩
 have HD:=hid hd;clear hd;generalize zhO y=res at *;generalize y.length=n at *;go_enter Tryz.func156,Tryz.ntmps156;go_wp2;go_ret;exact ⟨by first | (rw[← HD.o];rfl) | (rw[← HD.o];simp),by first | exact za.refl _ _ | exact za.alloc _ _ _⟩
theorem zg2{y:(List (Int × Int) × Int × Int)}(h:SgV w v y):Calls Tryz.prog 158 #[v] w' fun e w2=>e=.returned (.bool (zhV y))∧za [] w' w2:=by
 obtain ⟨a,cp,rfl,_⟩:=h;have hd:(decide ((y.1.length:Int)≤4))=zhV y:=by
  show _=decide _
  congr 1
  exact propext ⟨fun h=>by omega,fun h=>by omega⟩
 have HD:=hid hd;clear hd;generalize zhV y=res at *;generalize y.1.length=n at *;go_enter Tryz.func158,Tryz.ntmps158;go_wp2;go_ret;exact ⟨by first | (rw[← HD.o];rfl) | (rw[← HD.o];simp),by first | exact za.refl _ _ | exact za.alloc _ _ _⟩
theorem zdz{y:List Int}(h:IfV w v y):Calls Tryz.prog 160 #[v] w' fun e w2=>e=.returned (.bool (ifB y))∧za [] w' w2:=by
 obtain ⟨a,cp,rfl,_⟩:=h;have hd:(decide ((y.length:Int)≤3))=ifB y:=by
  show _=decide _
  congr 1
  exact propext ⟨fun h=>by omega,fun h=>by omega⟩
 have HD:=hid hd;clear hd;generalize ifB y=res at *;generalize y.length=n at *;go_enter Tryz.func160,Tryz.ntmps160;go_wp2;go_ret;exact ⟨by first | (rw[← HD.o];rfl) | (rw[← HD.o];simp),by first | exact za.refl _ _ | exact za.alloc _ _ _⟩
theorem zen{y:(Int × Int × List Int)}(h:ImV w v y):Calls Tryz.prog 162 #[v] w' fun e w2=>e=.returned (.bool (imB y))∧za [] w' w2:=by
 obtain ⟨a,cp,rfl,_⟩:=h;have hd:(decide ((y.2.2.length:Int)≤3))=imB y:=by
  show _=decide _
  congr 1
  exact propext ⟨fun h=>by omega,fun h=>by omega⟩
 have HD:=hid hd;clear hd;generalize imB y=res at *;generalize y.2.2.length=n at *;go_enter Tryz.func162,Tryz.ntmps162;go_wp2;go_ret;exact ⟨by first | (rw[← HD.o];rfl) | (rw[← HD.o];simp),by first | exact za.refl _ _ | exact za.alloc _ _ _⟩
theorem SlV.keeps{α:Type}{c:Nat}{R:World→Nat→Nat→α→Prop}{l:List α}(hR:ZA R)(h:SlV c R w v l)(k:za [] w w'):SlV c R w' v l:=by
 obtain ⟨a,cp,h1,h2,h3⟩:=h;exact ⟨a,cp,h1,h2.quiet hR k,h3⟩
theorem zcY{y:Bl8}(hk:za [] w w')(h:BlV w v y):Calls Tryz.prog 200 #[v] w' fun e w2=>e=.returned (.bool (zfT y))∧za [] w' w2:=by
 obtain ⟨a,cp,rfl,hc,h1,h2,h3,h4⟩:=h;have ka:=za.alloc [] w' (.cells #[.slice a y.code.length cp,int i64 y.fin,int i64 y.reg,int i64 y.to,int i64 y.els] 68);have HC:=hid (zdk (hc.keeps InC.stays (hk.quiet ka)) 30 zfU (by omega) fun w3 v z _ hv=>zcU hv);have HK:=hid ka;clear hc ka hk;go_enter Tryz.func200,Tryz.ntmps200;go_wp2_with fail;refine HC.o.mono ?_;rintro e w3 ⟨rfl,k3⟩;have K3:=hid (HK.o.quiet k3);clear k3;have HB:Box (qA y.code 30 zfU=zfT y):=hid rfl;rw[HB.o];go_wp2_with fail;go_ret;exact ⟨rfl,K3.o⟩
theorem zfl{y:Fu8}(hk:za [] w w')(h:FuV w v y):Calls Tryz.prog 164 #[v] w' fun e w2=>e=.returned (.bool (fnB y))∧za [] w' w2:=by
 obtain ⟨a,cp,a',cp',rfl,h1,h2,h3⟩:=h;have ka:=za.alloc [] w' (.cells #[int i64 y.sig,.slice a y.regs.length cp,.slice a' y.blocks.length cp'] 50);have HC:=hid (zdq (h3.keeps BlC.stays (hk.quiet ka)) 12 zfT (by omega) fun w3 v z k hv=>zcY k hv);have HK:=hid ka;have HE:Box (fnB y=(decide (y.regs.length≤16) && (decide (0<y.blocks.length) && qA y.blocks 12 zfT))):=hid rfl;clear h2 h3 ka hk h1;generalize fnB y=res at *;generalize qA y.blocks 12 zfT=r2 at *;generalize y.regs.length=n at *;generalize y.blocks.length=m at *;by_cases g1:n≤16
 ·have g1':(n:Int)≤16:=by omega
  by_cases g2:0<m
  ·have g2':(0:Int)<(m:Int):=by omega
   have HR:Box (res=r2):=hid (by rw[HE.o];simp[g1,g2]);clear HE;go_enter Tryz.func164,Tryz.ntmps164;go_wp2_with fail;refine HC.o.mono ?_;rintro e w3 ⟨rfl,k3⟩;have K3:=hid (HK.o.quiet k3);clear k3;go_wp2_with fail;go_ret;exact ⟨by rw[HR.o];rfl,K3.o⟩
  ·have g2':¬ (0:Int)<(m:Int):=by omega
   have HR:Box (res=false):=hid (by rw[HE.o];simp[g2]);clear HE;go_enter Tryz.func164,Tryz.ntmps164;go_wp2_with fail;go_ret;exact ⟨by rw[HR.o];rfl,HK.o⟩
 ·have g1':¬ (n:Int)≤16:=by omega
  have HR:Box (res=false):=hid (by rw[HE.o];simp[g1]);clear HE;go_enter Tryz.func164,Tryz.ntmps164;go_wp2_with fail;go_ret;exact ⟨by rw[HR.o];rfl,HK.o⟩
theorem Q9(h:qA P.funcs 12 fnB=true):zd2 P:=by
 have hf:∀ f,f<P.funcs.length→fnB (zf P f)=true:=fun f hf=>j6 h (zi hf);have hb:∀ f,f<P.funcs.length→qA (zf P f).blocks 12 zfT=true:=fun f h1=>by
  have:=hf f h1;unfold fnB at this;simp only[Bool.and_eq_true] at this;exact this.2.2
 refine ⟨qI h,fun f h1=>qI (hb f h1),fun {f b} h1 h2=> ?_⟩;have h3:=j6 (hb f h1) (show (zf P f).blocks[b]? = some (zA (zf P f) b) from zi h2);unfold zfT at h3;exact qI h3
def zj(x:Fu8)(r:Int):Int × Int:=if inB r x.regs.length then x.regs.getD r.toNat (0,0) else (-1,0)
theorem zjS{r:Int}(h:inB r x.regs.length=true):zj x r=x.regs.getD r.toNat (0,0):=by unfold zj;rw[h];rfl
theorem zgf{r:Int}(h:inB r x.regs.length=false):zj x r=(-1,0):=by unfold zj;rw[h];rfl
theorem zm1{b:Nat}{x y:Value}{T:TypeId}(h:w.heap[b]? = some (.cells #[x,y] T (0,0)))(u0 u1:Value):
  ((w.setCell ⟨b,0,none⟩ u0).setCell ⟨b,1,none⟩ u1).heap[b]? = some (.cells #[u0,u1] T (0,0)):=
 heap_setCell_same _ b 1 _ _ u1 (heap_setCell_same w b 0 _ _ u0 h)
theorem zas(w:World)(b:Nat)(u0 u1:Value):za [b] w ((w.setCell ⟨b,0,none⟩ u0).setCell ⟨b,1,none⟩ u1):=
 (za.setCell [b] _ _ _ (List.mem_singleton.2 rfl)).step (za.setCell [b] _ _ _ (List.mem_singleton.2 rfl))
theorem zo{fb fo:Nat}(h:FuC w fb fo x)(r:Int):Calls Tryz.prog 207 #[pointer (some ⟨fb,fo,none⟩),int i64 r] w fun e w'=>e=.returned (tyV (zj x r))∧za [] w w':=by
 obtain ⟨a,cp,c1,hr,_⟩:=h.c1;have ka:=za.alloc [] w (.cells #[int i64 0,int i64 0] 60);replace c1:=zb ka c1;have hn:=ze w (.cells #[int i64 0,int i64 0] 60);have HW:=hid fun (w:World)=>zp r x.regs.length w;have KA:=hid ka;have HR:=hid hr;have HN:=hid hn;have z0:=zg hn 0;have z1:=zg hn 1;have q0:=zc hn 0;have q1:=zc hn 1;cases hin:inB r x.regs.length with
 | true=>
  have HT:=hid (zjS hin);rw[hin] at HW;obtain ⟨h0,h1⟩:=zm.1 hin;obtain ⟨b,off,rfl,hc⟩:=HR.o.at (zi (l:=x.regs) (k:=r.toNat) (d:=(0,0)) (by omega));obtain ⟨k,rfl⟩:∃ k:Nat,r=(k:Int):=⟨r.toNat,by omega⟩;have ek:((k:Int)).toNat=k:=by omega
  rw[ek] at hc HT;have d0:=zb ka hc.c0.1;have d1:=zb ka hc.c1.1;generalize x.regs.getD k (0,0)=t at *;generalize zj x (k:Int)=T at *;generalize x.regs.length=n at *;clear h hr ka hn hc hin ek;go_enter Tryz.func207,Tryz.ntmps207;go_wp2_with fail;refine (HW.o _).mono ?_;rintro e w1 ⟨rfl,hw1⟩;rw[hw1];clear hw1;go_wp2_with fail;exact bodyPost_ret (v:=tyV t) (by simp[results,Tryz.results207,go_sem]) rfl ⟨by rw[HT.o],za.alloc _ _ _⟩
 | false=>
  have HT:=hid (zgf hin);rw[hin] at HW;generalize zj x r=T at *;generalize x.regs.length=n at *;clear h hr ka hn hin;go_enter Tryz.func207,Tryz.ntmps207;go_wp2_with fail;refine (HW.o _).mono ?_;rintro e w1 ⟨rfl,hw1⟩;rw[hw1];clear hw1;go_wp2_with fail;exact bodyPost_ret (v:=tyV (-1,0)) (by simp[results,Tryz.results207,go_sem]) rfl ⟨by rw[HT.o],za.alloc _ _ _⟩
theorem SgV.quiet{s:List (Int × Int) × Int × Int}(h:SgV w v s)(k:za [] w w'):SgV w' v s:=by
 obtain ⟨a,cp,h1,h2,h3⟩:=h;exact ⟨a,cp,h1,h2.keeps TyC.stays k,h3⟩
def zV(o:Option (List (Int × Int) × Int × Int))(w0 w:World)(e:Ending)(w':World):Prop:=
 za [] w w'∧match o with
  | some s=>∃ v,e=.returned (.tuple #[v,.bool true])∧SgV w0 v s
  | none=>e=.returned (.tuple #[agg #[.slice none 0 0,int i64 0,int i64 0],.bool false])
def jB(P:Pr8)(n:Int):Option (List (Int × Int) × Int × Int):=if inB n P.sigs.length then some (P.sigs.getD n.toNat ([],0,0)) else none
theorem ziN{n:Int}(h:inB n P.sigs.length=true):jB P n=some (P.sigs.getD n.toNat ([],0,0)):=by unfold jB;rw[h];rfl
theorem zgr{n:Int}(h:inB n P.sigs.length=false):jB P n=none:=by unfold jB;rw[h];rfl
theorem ZX{w0:World}{pb po:Nat}(h:PrC w0 pb po P)(k0:za [] w0 w)(r:Int):Calls Tryz.prog 173 #[pointer (some ⟨pb,po,none⟩),int i64 r] w (zV (jB P r) w0 w):=by
 obtain ⟨a,cp,c1,hr,_⟩:=h.c1;have ka:=za.alloc [] w (.cells #[.slice none 0 0,int i64 0,int i64 0] 75);replace c1:=zb (k0.quiet ka) c1;have hn:=ze w (.cells #[.slice none 0 0,int i64 0,int i64 0] 75);have HW:=hid fun (w:World)=>zp r P.sigs.length w;have KA:=hid ka;have HR:=hid hr;have HN:=hid hn;have z0:=zg hn 0;have z1:=zg hn 1;have z2:=zg hn 2;have q0:=zc hn 0;have q1:=zc hn 1;have q2:=zc hn 2;cases hin:inB r P.sigs.length with
 | true=>
  rw[ziN hin];rw[hin] at HW;obtain ⟨h0,h1⟩:=zm.1 hin;obtain ⟨b,off,rfl,hc⟩:=HR.o.at (zi (l:=P.sigs) (k:=r.toNat) (d:=([],0,0)) (by omega));obtain ⟨k,rfl⟩:∃ k:Nat,r=(k:Int):=⟨r.toNat,by omega⟩;have ek:((k:Int)).toNat=k:=by omega
  rw[ek] at hc ⊢;obtain ⟨ga,gp,g0,q5⟩:=hc.c0.val;have HV:Box (SgV w0 (agg #[.slice ga (P.sigs.getD k ([],0,0)).1.length gp,int i64 (P.sigs.getD k ([],0,0)).2.1,int i64 (P.sigs.getD k ([],0,0)).2.2]) (P.sigs.getD k ([],0,0))):=hid ⟨ga,gp,rfl,q5,hc.c1.2,hc.c2.2⟩;have d0:=zb (k0.quiet ka) g0;have d1:=zb (k0.quiet ka) hc.c1.1;have d2:=zb (k0.quiet ka) hc.c2.1;generalize P.sigs.getD k ([],0,0)=t at *;generalize P.sigs.length=n at *;clear h hr ka k0 hn hc hin ek g0 q5;go_enter Tryz.func173,Tryz.ntmps173;go_wp2_with fail;refine (HW.o _).mono ?_;rintro e w1 ⟨rfl,hw1⟩;rw[hw1];clear hw1;go_wp2_with fail;exact bodyPost_ret (v:=.tuple #[agg #[.slice ga t.1.length gp,int i64 t.2.1,int i64 t.2.2],.bool true]) (by simp[results,Tryz.results173,go_sem]) rfl ⟨za.alloc _ _ _,_,rfl,HV.o⟩
 | false=>
  rw[zgr hin];rw[hin] at HW;generalize P.sigs.length=n at *;clear h hr ka k0 hn hin;go_enter Tryz.func173,Tryz.ntmps173;go_wp2_with fail;refine (HW.o _).mono ?_;rintro e w1 ⟨rfl,hw1⟩;rw[hw1];clear hw1;go_wp2_with fail;exact bodyPost_ret (v:=.tuple #[agg #[.slice none 0 0,int i64 0,int i64 0],.bool false]) (by simp[results,Tryz.results173,go_sem]) rfl ⟨za.alloc _ _ _,rfl⟩
end Go.Proofs.YtgmbkiagdhjpnaaGreatDoor
