import Derived.Test.YthflgjkmbakedaaGreatDoorN05
import Derived.Test.YthflgjkmbakedaaGreatDoorN06

namespace Go.Proofs.YthflgjkmbakedaaGreatDoor
open Go.RowKit
open Go.Value (int pointer agg)
open Go.IntKind (i64)
set_option maxRecDepth 20000
set_option maxHeartbeats 8000000
variable {P:Pr8}{v:Value}{w:World}
theorem zb9{l:List In8}(hx:ziC w v l)(m:Nat)(g:In8→Bool)(hm:m≤100)(hg:∀ w' v y,za [] w w'→InV w v y→Calls Tryz.prog 254 #[v] w' fun e w2=>e=.returned (.bool (g y))∧za [] w' w2):
  Calls Tryz.prog 253 #[v,int i64 (m:Int),.func (.func 254) #[] #[]] w fun e w'=>e=.returned (.bool (qk l m g))∧za [] w w':=by
 obtain ⟨a,cp,rfl,hr,_,hl⟩:=hx;have HP:=hid hg;have HR:=hid hr;obtain ⟨n,hn⟩:∃ n,n=l.length:=⟨_,rfl⟩;rw[← hn];have HL:=hid hn;clear hg hr hl hn;by_cases hlong:m<n
 ·have hl':(m:Int)<(n:Int):=by omega
  have HE:=hid (qA (g:=g) (show m<l.length by rw[← HL.o];exact hlong));generalize qk l m g=res at *;clear hlong;go_enter Tryz.func253,Tryz.ntmps253;go_wp2;go_ret;exact ⟨by rw[HE.o];rfl,za.refl _ _⟩
 ·have hl':¬ (m:Int)<(n:Int):=by omega
  have hn1:(n:Int)≤100:=by omega
  have HM:Box (l.length≤m):=hid (by rw[← HL.o];omega);clear hlong;go_enter Tryz.func253,Tryz.ntmps253;go_wp2_with fail
  go_loopw [14] (fun kv wr=>∃ k:Nat,k≤n∧kv=int i64 (k:Int)∧Box (za [] w wr∧∀ j y,j<k→l[j]? = some y→g y=true)) (fun kv _=>n - (intOf kv).toNat)
  case atStart=>exact ⟨0,by omega,rfl,hid ⟨za.refl _ _,fun j y hj=>by omega⟩⟩
  case round=>
   obtain ⟨k,hk,rfl,HB⟩:=hrel;have HK:=hid HB.o.1;by_cases hlt:k<n
   ·have hlt':(k:Int)<(n:Int):=by omega
    obtain ⟨y,hy⟩:∃ y,l[k]? = some y:=⟨_,List.getElem?_eq_getElem (by rw[← HL.o];exact hlt)⟩;obtain ⟨b,off,rfl,hc⟩:=HR.o.at hy
    skip
    obtain ⟨ar,acp,h5,q5⟩:=SlC.val hc.c5;have d0:=zb HK.o hc.c0.1;have d1:=zb HK.o hc.c1.1;have d2:=zb HK.o hc.c2.1;have d3:=zb HK.o hc.c3.1;have d4:=zb HK.o hc.c4.1;have d5:=zb HK.o h5;have HC:=hid (HP.o wr (agg #[int i64 y.op,int i64 y.dst,int i64 y.a,int i64 y.b,int i64 y.n,.slice ar y.args.length acp]) y HK.o (⟨ar,acp,rfl,hc.c0.2,hc.c1.2,hc.c2.2,hc.c3.2,hc.c4.2,q5⟩));have HY:=hid hy;clear hc hy h5 q5;cases hgy:g y with
    | true=>
     rw[hgy] at HC;have HG:=hid hgy;clear hgy;go_wp2_with fail;refine HC.o.mono ?_;rintro e w3 ⟨rfl,k3⟩;have K3:=hid (HK.o.quiet k3);clear k3;go_wp2_with fail;go_roundw
     case rel=>exact ⟨k+1,by omega,by go_num,hid ⟨K3.o,fun j z hj hz=>by
      by_cases e:j<k
      ·exact HB.o.2 j z e hz
      ·obtain rfl:j=k:=by omega
       rw[HY.o] at hz;cases hz
       exact HG.o⟩⟩
     case measure=>simp[intOf];omega
    | false=>
     rw[hgy] at HC;have HE:=hid (qW (m:=m) HY.o hgy);clear hgy;go_wp2_with fail;refine HC.o.mono ?_;rintro e w3 ⟨rfl,k3⟩;have K3:=hid (HK.o.quiet k3);clear k3;go_wp2_with fail;go_ret;exact ⟨by rw[HE.o];rfl,K3.o⟩
   ·obtain rfl:k=n:=by omega
    have HE:=hid (q7 (g:=g) HM.o (fun j y hy=>HB.o.2 j y (by rw[HL.o];exact (List.getElem?_eq_some_iff.1 hy).1) hy));go_wp2_with fail;go_ret;exact ⟨by rw[HE.o];rfl,HK.o⟩
theorem zbV{l:List Bl8}(hx:zja w v l)(m:Nat)(g:Bl8→Bool)(hm:m≤100)(hg:∀ w' v y,za [] w w'→BlV w v y→Calls Tryz.prog 235 #[v] w' fun e w2=>e=.returned (.bool (g y))∧za [] w' w2):
  Calls Tryz.prog 234 #[v,int i64 (m:Int),.func (.func 235) #[] #[]] w fun e w'=>e=.returned (.bool (qk l m g))∧za [] w w':=by
 obtain ⟨a,cp,rfl,hr,_,hl⟩:=hx;have HP:=hid hg;have HR:=hid hr;obtain ⟨n,hn⟩:∃ n,n=l.length:=⟨_,rfl⟩;rw[← hn];have HL:=hid hn;clear hg hr hl hn;by_cases hlong:m<n
 ·have hl':(m:Int)<(n:Int):=by omega
  have HE:=hid (qA (g:=g) (show m<l.length by rw[← HL.o];exact hlong));generalize qk l m g=res at *;clear hlong;go_enter Tryz.func234,Tryz.ntmps234;go_wp2;go_ret;exact ⟨by rw[HE.o];rfl,za.refl _ _⟩
 ·have hl':¬ (m:Int)<(n:Int):=by omega
  have hn1:(n:Int)≤100:=by omega
  have HM:Box (l.length≤m):=hid (by rw[← HL.o];omega);clear hlong;go_enter Tryz.func234,Tryz.ntmps234;go_wp2_with fail
  go_loopw [14] (fun kv wr=>∃ k:Nat,k≤n∧kv=int i64 (k:Int)∧Box (za [] w wr∧∀ j y,j<k→l[j]? = some y→g y=true)) (fun kv _=>n - (intOf kv).toNat)
  case atStart=>exact ⟨0,by omega,rfl,hid ⟨za.refl _ _,fun j y hj=>by omega⟩⟩
  case round=>
   obtain ⟨k,hk,rfl,HB⟩:=hrel;have HK:=hid HB.o.1;by_cases hlt:k<n
   ·have hlt':(k:Int)<(n:Int):=by omega
    obtain ⟨y,hy⟩:∃ y,l[k]? = some y:=⟨_,List.getElem?_eq_getElem (by rw[← HL.o];exact hlt)⟩;obtain ⟨b,off,rfl,hc⟩:=HR.o.at hy
    skip
    obtain ⟨ar,acp,h5,q5⟩:=hc.c0.val;have d0:=zb HK.o hc.c1.1;have d1:=zb HK.o hc.c2.1;have d2:=zb HK.o hc.c3.1;have d3:=zb HK.o hc.c4.1;have d4:=zb HK.o h5;have HC:=hid (HP.o wr (agg #[.slice ar y.code.length acp,int i64 y.fin,int i64 y.reg,int i64 y.to,int i64 y.els]) y HK.o (⟨ar,acp,rfl,q5,hc.c1.2,hc.c2.2,hc.c3.2,hc.c4.2⟩));have HY:=hid hy;clear hc hy h5 q5;cases hgy:g y with
    | true=>
     rw[hgy] at HC;have HG:=hid hgy;clear hgy;go_wp2_with fail;refine HC.o.mono ?_;rintro e w3 ⟨rfl,k3⟩;have K3:=hid (HK.o.quiet k3);clear k3;go_wp2_with fail;go_roundw
     case rel=>exact ⟨k+1,by omega,by go_num,hid ⟨K3.o,fun j z hj hz=>by
      by_cases e:j<k
      ·exact HB.o.2 j z e hz
      ·obtain rfl:j=k:=by omega
       rw[HY.o] at hz;cases hz
       exact HG.o⟩⟩
     case measure=>simp[intOf];omega
    | false=>
     rw[hgy] at HC;have HE:=hid (qW (m:=m) HY.o hgy);clear hgy;go_wp2_with fail;refine HC.o.mono ?_;rintro e w3 ⟨rfl,k3⟩;have K3:=hid (HK.o.quiet k3);clear k3;go_wp2_with fail;go_ret;exact ⟨by rw[HE.o];rfl,K3.o⟩
   ·obtain rfl:k=n:=by omega
    have HE:=hid (q7 (g:=g) HM.o (fun j y hy=>HB.o.2 j y (by rw[HL.o];exact (List.getElem?_eq_some_iff.1 hy).1) hy));go_wp2_with fail;go_ret;exact ⟨by rw[HE.o];rfl,HK.o⟩
theorem zeg{l:List Fu8}(hx:SlV 3 FuC w v l)(m:Nat)(g:Fu8→Bool)(hm:m≤100)(hg:∀ w' v y,za [] w w'→FuV w v y→Calls Tryz.prog 187 #[v] w' fun e w2=>e=.returned (.bool (g y))∧za [] w' w2):
  Calls Tryz.prog 186 #[v,int i64 (m:Int),.func (.func 187) #[] #[]] w fun e w'=>e=.returned (.bool (qk l m g))∧za [] w w':=by
 obtain ⟨a,cp,rfl,hr,_,hl⟩:=hx;have HP:=hid hg;have HR:=hid hr;obtain ⟨n,hn⟩:∃ n,n=l.length:=⟨_,rfl⟩;rw[← hn];have HL:=hid hn;clear hg hr hl hn;by_cases hlong:m<n
 ·have hl':(m:Int)<(n:Int):=by omega
  have HE:=hid (qA (g:=g) (show m<l.length by rw[← HL.o];exact hlong));generalize qk l m g=res at *;clear hlong;go_enter Tryz.func186,Tryz.ntmps186;go_wp2;go_ret;exact ⟨by rw[HE.o];rfl,za.refl _ _⟩
 ·have hl':¬ (m:Int)<(n:Int):=by omega
  have hn1:(n:Int)≤100:=by omega
  have HM:Box (l.length≤m):=hid (by rw[← HL.o];omega);clear hlong;go_enter Tryz.func186,Tryz.ntmps186;go_wp2_with fail
  go_loopw [14] (fun kv wr=>∃ k:Nat,k≤n∧kv=int i64 (k:Int)∧Box (za [] w wr∧∀ j y,j<k→l[j]? = some y→g y=true)) (fun kv _=>n - (intOf kv).toNat)
  case atStart=>exact ⟨0,by omega,rfl,hid ⟨za.refl _ _,fun j y hj=>by omega⟩⟩
  case round=>
   obtain ⟨k,hk,rfl,HB⟩:=hrel;have HK:=hid HB.o.1;by_cases hlt:k<n
   ·have hlt':(k:Int)<(n:Int):=by omega
    obtain ⟨y,hy⟩:∃ y,l[k]? = some y:=⟨_,List.getElem?_eq_getElem (by rw[← HL.o];exact hlt)⟩;obtain ⟨b,off,rfl,hc⟩:=HR.o.at hy
    skip
    obtain ⟨ar,acp,h5,q5⟩:=hc.c1.val;obtain ⟨br,bcp,h6,q6⟩:=hc.c2.val;have d0:=zb HK.o hc.c0.1;have d1:=zb HK.o h5;have d2:=zb HK.o h6;have HC:=hid (HP.o wr (agg #[int i64 y.sig,.slice ar y.regs.length acp,.slice br y.blocks.length bcp]) y HK.o (⟨ar,acp,br,bcp,rfl,hc.c0.2,q5,q6⟩));have HY:=hid hy;clear hc hy h5 q5 h6 q6;cases hgy:g y with
    | true=>
     rw[hgy] at HC;have HG:=hid hgy;clear hgy;go_wp2_with fail;refine HC.o.mono ?_;rintro e w3 ⟨rfl,k3⟩;have K3:=hid (HK.o.quiet k3);clear k3;go_wp2_with fail;go_roundw
     case rel=>exact ⟨k+1,by omega,by go_num,hid ⟨K3.o,fun j z hj hz=>by
      by_cases e:j<k
      ·exact HB.o.2 j z e hz
      ·obtain rfl:j=k:=by omega
       rw[HY.o] at hz;cases hz
       exact HG.o⟩⟩
     case measure=>simp[intOf];omega
    | false=>
     rw[hgy] at HC;have HE:=hid (qW (m:=m) HY.o hgy);clear hgy;go_wp2_with fail;refine HC.o.mono ?_;rintro e w3 ⟨rfl,k3⟩;have K3:=hid (HK.o.quiet k3);clear k3;go_wp2_with fail;go_ret;exact ⟨by rw[HE.o];rfl,K3.o⟩
   ·obtain rfl:k=n:=by omega
    have HE:=hid (q7 (g:=g) HM.o (fun j y hy=>HB.o.2 j y (by rw[HL.o];exact (List.getElem?_eq_some_iff.1 hy).1) hy));go_wp2_with fail;go_ret;exact ⟨by rw[HE.o];rfl,HK.o⟩
theorem zeJ{l:List (List (Int × Int))}(hx:SlV 1 (SlC 2 TyC) w v l)(m:Nat)(g:(List (Int × Int))→Bool)(hm:m≤100)(hg:∀ w' v y,za [] w w'→zeh w v y→Calls Tryz.prog 179 #[v] w' fun e w2=>e=.returned (.bool (g y))∧za [] w' w2):
  Calls Tryz.prog 178 #[v,int i64 (m:Int),.func (.func 179) #[] #[]] w fun e w'=>e=.returned (.bool (qk l m g))∧za [] w w':=by
 obtain ⟨a,cp,rfl,hr,_,hl⟩:=hx;have HP:=hid hg;have HR:=hid hr;obtain ⟨n,hn⟩:∃ n,n=l.length:=⟨_,rfl⟩;rw[← hn];have HL:=hid hn;clear hg hr hl hn;by_cases hlong:m<n
 ·have hl':(m:Int)<(n:Int):=by omega
  have HE:=hid (qA (g:=g) (show m<l.length by rw[← HL.o];exact hlong));generalize qk l m g=res at *;clear hlong;go_enter Tryz.func178,Tryz.ntmps178;go_wp2;go_ret;exact ⟨by rw[HE.o];rfl,za.refl _ _⟩
 ·have hl':¬ (m:Int)<(n:Int):=by omega
  have hn1:(n:Int)≤100:=by omega
  have HM:Box (l.length≤m):=hid (by rw[← HL.o];omega);clear hlong;go_enter Tryz.func178,Tryz.ntmps178;go_wp2_with fail
  go_loopw [14] (fun kv wr=>∃ k:Nat,k≤n∧kv=int i64 (k:Int)∧Box (za [] w wr∧∀ j y,j<k→l[j]? = some y→g y=true)) (fun kv _=>n - (intOf kv).toNat)
  case atStart=>exact ⟨0,by omega,rfl,hid ⟨za.refl _ _,fun j y hj=>by omega⟩⟩
  case round=>
   obtain ⟨k,hk,rfl,HB⟩:=hrel;have HK:=hid HB.o.1;by_cases hlt:k<n
   ·have hlt':(k:Int)<(n:Int):=by omega
    obtain ⟨y,hy⟩:∃ y,l[k]? = some y:=⟨_,List.getElem?_eq_getElem (by rw[← HL.o];exact hlt)⟩;obtain ⟨b,off,rfl,hc⟩:=HR.o.at hy;rw[Nat.mul_one] at hc;obtain ⟨ar,acp,h5,q5⟩:=hc.val;have d0:=zb HK.o h5;have HC:=hid (HP.o wr (.slice ar y.length acp) y HK.o (q5));have HY:=hid hy;clear hc hy h5 q5;cases hgy:g y with
    | true=>
     rw[hgy] at HC;have HG:=hid hgy;clear hgy;go_wp2_with fail;refine HC.o.mono ?_;rintro e w3 ⟨rfl,k3⟩;have K3:=hid (HK.o.quiet k3);clear k3;go_wp2_with fail;go_roundw
     case rel=>exact ⟨k+1,by omega,by go_num,hid ⟨K3.o,fun j z hj hz=>by
      by_cases e:j<k
      ·exact HB.o.2 j z e hz
      ·obtain rfl:j=k:=by omega
       rw[HY.o] at hz;cases hz
       exact HG.o⟩⟩
     case measure=>simp[intOf];omega
    | false=>
     rw[hgy] at HC;have HE:=hid (qW (m:=m) HY.o hgy);clear hgy;go_wp2_with fail;refine HC.o.mono ?_;rintro e w3 ⟨rfl,k3⟩;have K3:=hid (HK.o.quiet k3);clear k3;go_wp2_with fail;go_ret;exact ⟨by rw[HE.o];rfl,K3.o⟩
   ·obtain rfl:k=n:=by omega
    have HE:=hid (q7 (g:=g) HM.o (fun j y hy=>HB.o.2 j y (by rw[HL.o];exact (List.getElem?_eq_some_iff.1 hy).1) hy));go_wp2_with fail;go_ret;exact ⟨by rw[HE.o];rfl,HK.o⟩
theorem zeu{l:List (List (Int × Int) × Int × Int)}(hx:SlV 3 SgC w v l)(m:Nat)(g:(List (Int × Int) × Int × Int)→Bool)(hm:m≤100)(hg:∀ w' v y,za [] w w'→SgV w v y→Calls Tryz.prog 181 #[v] w' fun e w2=>e=.returned (.bool (g y))∧za [] w' w2):
  Calls Tryz.prog 180 #[v,int i64 (m:Int),.func (.func 181) #[] #[]] w fun e w'=>e=.returned (.bool (qk l m g))∧za [] w w':=by
 obtain ⟨a,cp,rfl,hr,_,hl⟩:=hx;have HP:=hid hg;have HR:=hid hr;obtain ⟨n,hn⟩:∃ n,n=l.length:=⟨_,rfl⟩;rw[← hn];have HL:=hid hn;clear hg hr hl hn;by_cases hlong:m<n
 ·have hl':(m:Int)<(n:Int):=by omega
  have HE:=hid (qA (g:=g) (show m<l.length by rw[← HL.o];exact hlong));generalize qk l m g=res at *;clear hlong;go_enter Tryz.func180,Tryz.ntmps180;go_wp2;go_ret;exact ⟨by rw[HE.o];rfl,za.refl _ _⟩
 ·have hl':¬ (m:Int)<(n:Int):=by omega
  have hn1:(n:Int)≤100:=by omega
  have HM:Box (l.length≤m):=hid (by rw[← HL.o];omega);clear hlong;go_enter Tryz.func180,Tryz.ntmps180;go_wp2_with fail
  go_loopw [14] (fun kv wr=>∃ k:Nat,k≤n∧kv=int i64 (k:Int)∧Box (za [] w wr∧∀ j y,j<k→l[j]? = some y→g y=true)) (fun kv _=>n - (intOf kv).toNat)
  case atStart=>exact ⟨0,by omega,rfl,hid ⟨za.refl _ _,fun j y hj=>by omega⟩⟩
  case round=>
   obtain ⟨k,hk,rfl,HB⟩:=hrel;have HK:=hid HB.o.1;by_cases hlt:k<n
   ·have hlt':(k:Int)<(n:Int):=by omega
    obtain ⟨y,hy⟩:∃ y,l[k]? = some y:=⟨_,List.getElem?_eq_getElem (by rw[← HL.o];exact hlt)⟩;obtain ⟨b,off,rfl,hc⟩:=HR.o.at hy
    skip
    obtain ⟨ar,acp,h5,q5⟩:=hc.c0.val;have d0:=zb HK.o hc.c1.1;have d1:=zb HK.o hc.c2.1;have d2:=zb HK.o h5;have HC:=hid (HP.o wr (agg #[.slice ar y.1.length acp,int i64 y.2.1,int i64 y.2.2]) y HK.o (⟨ar,acp,rfl,q5,hc.c1.2,hc.c2.2⟩));have HY:=hid hy;clear hc hy h5 q5;cases hgy:g y with
    | true=>
     rw[hgy] at HC;have HG:=hid hgy;clear hgy;go_wp2_with fail;refine HC.o.mono ?_;rintro e w3 ⟨rfl,k3⟩;have K3:=hid (HK.o.quiet k3);clear k3;go_wp2_with fail;go_roundw
     case rel=>exact ⟨k+1,by omega,by go_num,hid ⟨K3.o,fun j z hj hz=>by
      by_cases e:j<k
      ·exact HB.o.2 j z e hz
      ·obtain rfl:j=k:=by omega
       rw[HY.o] at hz;cases hz
       exact HG.o⟩⟩
     case measure=>simp[intOf];omega
    | false=>
     rw[hgy] at HC;have HE:=hid (qW (m:=m) HY.o hgy);clear hgy;go_wp2_with fail;refine HC.o.mono ?_;rintro e w3 ⟨rfl,k3⟩;have K3:=hid (HK.o.quiet k3);clear k3;go_wp2_with fail;go_ret;exact ⟨by rw[HE.o];rfl,K3.o⟩
   ·obtain rfl:k=n:=by omega
    have HE:=hid (q7 (g:=g) HM.o (fun j y hy=>HB.o.2 j y (by rw[HL.o];exact (List.getElem?_eq_some_iff.1 hy).1) hy));go_wp2_with fail;go_ret;exact ⟨by rw[HE.o];rfl,HK.o⟩
theorem zbN{l:List (List Int)}(hx:SlV 1 j7 w v l)(m:Nat)(g:(List Int)→Bool)(hm:m≤100)(hg:∀ w' v y,za [] w w'→IfV w v y→Calls Tryz.prog 183 #[v] w' fun e w2=>e=.returned (.bool (g y))∧za [] w' w2):
  Calls Tryz.prog 182 #[v,int i64 (m:Int),.func (.func 183) #[] #[]] w fun e w'=>e=.returned (.bool (qk l m g))∧za [] w w':=by
 obtain ⟨a,cp,rfl,hr,_,hl⟩:=hx;have HP:=hid hg;have HR:=hid hr;obtain ⟨n,hn⟩:∃ n,n=l.length:=⟨_,rfl⟩;rw[← hn];have HL:=hid hn;clear hg hr hl hn;by_cases hlong:m<n
 ·have hl':(m:Int)<(n:Int):=by omega
  have HE:=hid (qA (g:=g) (show m<l.length by rw[← HL.o];exact hlong));generalize qk l m g=res at *;clear hlong;go_enter Tryz.func182,Tryz.ntmps182;go_wp2;go_ret;exact ⟨by rw[HE.o];rfl,za.refl _ _⟩
 ·have hl':¬ (m:Int)<(n:Int):=by omega
  have hn1:(n:Int)≤100:=by omega
  have HM:Box (l.length≤m):=hid (by rw[← HL.o];omega);clear hlong;go_enter Tryz.func182,Tryz.ntmps182;go_wp2_with fail
  go_loopw [14] (fun kv wr=>∃ k:Nat,k≤n∧kv=int i64 (k:Int)∧Box (za [] w wr∧∀ j y,j<k→l[j]? = some y→g y=true)) (fun kv _=>n - (intOf kv).toNat)
  case atStart=>exact ⟨0,by omega,rfl,hid ⟨za.refl _ _,fun j y hj=>by omega⟩⟩
  case round=>
   obtain ⟨k,hk,rfl,HB⟩:=hrel;have HK:=hid HB.o.1;by_cases hlt:k<n
   ·have hlt':(k:Int)<(n:Int):=by omega
    obtain ⟨y,hy⟩:∃ y,l[k]? = some y:=⟨_,List.getElem?_eq_getElem (by rw[← HL.o];exact hlt)⟩;obtain ⟨b,off,rfl,hc⟩:=HR.o.at hy;rw[Nat.mul_one] at hc;obtain ⟨ar,acp,h5,q5⟩:=SlC.val hc;have d0:=zb HK.o h5;have HC:=hid (HP.o wr (agg #[.slice ar y.length acp]) y HK.o (⟨ar,acp,rfl,q5⟩));have HY:=hid hy;clear hc hy h5 q5;cases hgy:g y with
    | true=>
     rw[hgy] at HC;have HG:=hid hgy;clear hgy;go_wp2_with fail;refine HC.o.mono ?_;rintro e w3 ⟨rfl,k3⟩;have K3:=hid (HK.o.quiet k3);clear k3;go_wp2_with fail;go_roundw
     case rel=>exact ⟨k+1,by omega,by go_num,hid ⟨K3.o,fun j z hj hz=>by
      by_cases e:j<k
      ·exact HB.o.2 j z e hz
      ·obtain rfl:j=k:=by omega
       rw[HY.o] at hz;cases hz
       exact HG.o⟩⟩
     case measure=>simp[intOf];omega
    | false=>
     rw[hgy] at HC;have HE:=hid (qW (m:=m) HY.o hgy);clear hgy;go_wp2_with fail;refine HC.o.mono ?_;rintro e w3 ⟨rfl,k3⟩;have K3:=hid (HK.o.quiet k3);clear k3;go_wp2_with fail;go_ret;exact ⟨by rw[HE.o];rfl,K3.o⟩
   ·obtain rfl:k=n:=by omega
    have HE:=hid (q7 (g:=g) HM.o (fun j y hy=>HB.o.2 j y (by rw[HL.o];exact (List.getElem?_eq_some_iff.1 hy).1) hy));go_wp2_with fail;go_ret;exact ⟨by rw[HE.o];rfl,HK.o⟩
theorem zcC{l:List (Int × Int × List Int)}(hx:SlV 3 ImC w v l)(m:Nat)(g:(Int × Int × List Int)→Bool)(hm:m≤100)(hg:∀ w' v y,za [] w w'→ImV w v y→Calls Tryz.prog 185 #[v] w' fun e w2=>e=.returned (.bool (g y))∧za [] w' w2):
  Calls Tryz.prog 184 #[v,int i64 (m:Int),.func (.func 185) #[] #[]] w fun e w'=>e=.returned (.bool (qk l m g))∧za [] w w':=by
 obtain ⟨a,cp,rfl,hr,_,hl⟩:=hx;have HP:=hid hg;have HR:=hid hr;obtain ⟨n,hn⟩:∃ n,n=l.length:=⟨_,rfl⟩;rw[← hn];have HL:=hid hn;clear hg hr hl hn;by_cases hlong:m<n
 ·have hl':(m:Int)<(n:Int):=by omega
  have HE:=hid (qA (g:=g) (show m<l.length by rw[← HL.o];exact hlong));generalize qk l m g=res at *;clear hlong;go_enter Tryz.func184,Tryz.ntmps184;go_wp2;go_ret;exact ⟨by rw[HE.o];rfl,za.refl _ _⟩
 ·have hl':¬ (m:Int)<(n:Int):=by omega
  have hn1:(n:Int)≤100:=by omega
  have HM:Box (l.length≤m):=hid (by rw[← HL.o];omega);clear hlong;go_enter Tryz.func184,Tryz.ntmps184;go_wp2_with fail
  go_loopw [14] (fun kv wr=>∃ k:Nat,k≤n∧kv=int i64 (k:Int)∧Box (za [] w wr∧∀ j y,j<k→l[j]? = some y→g y=true)) (fun kv _=>n - (intOf kv).toNat)
  case atStart=>exact ⟨0,by omega,rfl,hid ⟨za.refl _ _,fun j y hj=>by omega⟩⟩
  case round=>
   obtain ⟨k,hk,rfl,HB⟩:=hrel;have HK:=hid HB.o.1;by_cases hlt:k<n
   ·have hlt':(k:Int)<(n:Int):=by omega
    obtain ⟨y,hy⟩:∃ y,l[k]? = some y:=⟨_,List.getElem?_eq_getElem (by rw[← HL.o];exact hlt)⟩;obtain ⟨b,off,rfl,hc⟩:=HR.o.at hy
    skip
    obtain ⟨ar,acp,h5,q5⟩:=SlC.val hc.c2;have d0:=zb HK.o hc.c0.1;have d1:=zb HK.o hc.c1.1;have d2:=zb HK.o h5;have HC:=hid (HP.o wr (agg #[int i64 y.1,int i64 y.2.1,.slice ar y.2.2.length acp]) y HK.o (⟨ar,acp,rfl,hc.c0.2,hc.c1.2,q5⟩));have HY:=hid hy;clear hc hy h5 q5;cases hgy:g y with
    | true=>
     rw[hgy] at HC;have HG:=hid hgy;clear hgy;go_wp2_with fail;refine HC.o.mono ?_;rintro e w3 ⟨rfl,k3⟩;have K3:=hid (HK.o.quiet k3);clear k3;go_wp2_with fail;go_roundw
     case rel=>exact ⟨k+1,by omega,by go_num,hid ⟨K3.o,fun j z hj hz=>by
      by_cases e:j<k
      ·exact HB.o.2 j z e hz
      ·obtain rfl:j=k:=by omega
       rw[HY.o] at hz;cases hz
       exact HG.o⟩⟩
     case measure=>simp[intOf];omega
    | false=>
     rw[hgy] at HC;have HE:=hid (qW (m:=m) HY.o hgy);clear hgy;go_wp2_with fail;refine HC.o.mono ?_;rintro e w3 ⟨rfl,k3⟩;have K3:=hid (HK.o.quiet k3);clear k3;go_wp2_with fail;go_ret;exact ⟨by rw[HE.o];rfl,K3.o⟩
   ·obtain rfl:k=n:=by omega
    have HE:=hid (q7 (g:=g) HM.o (fun j y hy=>HB.o.2 j y (by rw[HL.o];exact (List.getElem?_eq_some_iff.1 hy).1) hy));go_wp2_with fail;go_ret;exact ⟨by rw[HE.o];rfl,HK.o⟩
structure zbc (P:Pr8):Prop where
 fn:P.funcs.length≤12
 bk:∀ f,f<P.funcs.length→(zf P f).blocks.length≤12
 code:∀ {f b},f<P.funcs.length→b<(zf P f).blocks.length→(zq (zf P f) b).code.length≤30
theorem zbc.cnt1{P:Pr8}(h:zbc P){f:Nat}(hf:f<P.funcs.length):∀ b,b≤(zf P f).blocks.length→Go.Proofs.YthflgjkmbakedaaGreatDoor.ZZ (zf P f) b≤31 * b
 | 0,_=>Nat.zero_le _
 | b+1,hb=>by
  have h1:=h.cnt1 hf b (by omega);have h2:=h.code hf (show b<_ by omega);rw[qO];omega
theorem zbc.cntP{P:Pr8}(h:zbc P):∀ k,k≤P.funcs.length→Go.Proofs.YthflgjkmbakedaaGreatDoor.JG P k≤372 * k
 | 0,_=>Nat.zero_le _
 | k+1,hk=>by
  have h1:=h.cntP k (by omega);have h2:=h.cnt1 (f:=k) (by omega) _ (Nat.le_refl _);have h3:=h.bk k (by omega);rw[jR];omega
theorem zbc.cntF(h:zbc P){f b:Nat}(hf:f<P.funcs.length)(hb:b≤(zf P f).blocks.length):Go.Proofs.YthflgjkmbakedaaGreatDoor.JG P f+Go.Proofs.YthflgjkmbakedaaGreatDoor.ZZ (zf P f) b≤4500:=by
 have h1:=h.cntP f (by omega);have h2:=h.cnt1 hf b hb;have h3:=h.bk f hf;have h4:=h.fn;omega
theorem zbc.pts(h:zbc P):(Go.Proofs.YthflgjkmbakedaaGreatDoor.pts P).length≤4500:=by
 have h1:=h.cntP _ (Nat.le_refl _);have h4:=h.fn;rw[zaf];omega
theorem j5{pb po:Nat}(h:PrC w pb po P)(hs:zbc P):Calls Tryz.prog 70 #[pointer (some ⟨pb,po,none⟩)] w fun e w'=>∃ a cp,e=.returned (.slice a (pts P).length cp)∧zv w' 3 PtC a (pts P)∧za [] w w':=by
 have HP:=hid h;have HS:=hid hs;obtain ⟨fa,fcp,H⟩:=h.fns;have h4:=H.cell;have hN:=hs.fn;obtain ⟨N,hNN⟩:∃ N,N=P.funcs.length:=⟨_,rfl⟩;have HN:=hid hNN;rw[← hNN] at h4 hN
 have H4:Box (∀ w',za [] w w'→w'.cell? ⟨pb,po+4,none⟩=some (.slice fa N fcp)):=hid (by
  have h4':=h4;intro w' k
  exact zb k h4')
 have HF:=hid H;have HR0:Box (w.ownsRow w.heap.size 99 3 (.slice none 0 0) (ptP P 0).length (Z4 (ptP P 0))):=hid (World.ownsRow_nil _ _ _ _);clear h hs H hNN;go_enter Tryz.func70,Tryz.ntmps70;go_wp2_with fail
 go_loopw [3,14] (fun lv fv wr=>∃ k:Nat,k≤N∧fv=int i64 (k:Int)∧Box (wr.ownsRow w.heap.size 99 3 lv (ptP P k).length (Z4 (ptP P k)))∧Box (za [] w wr)) (fun _ fv _=>N - (intOf fv).toNat)
 case atStart=>exact ⟨0,by omega,rfl,HR0,hid (za.refl _ _)⟩
 case round=>
  obtain ⟨k,hk,rfl,HR,HK⟩:=hrel;clear HR0;by_cases hlt:k<N
  ·have hlt':(k:Int)<(N:Int):=by omega
   have g4:=H4.o _ HK.o;obtain ⟨fb,fo,ba,bcp,rfl,B⟩:=HF.o.at (f:=k) (by rw[← HN.o];exact hlt);have g2:=zb HK.o B.cell;have hM:=HS.o.bk k (by rw[← HN.o];exact hlt);obtain ⟨M,hMM⟩:∃ M,M=(zf P k).blocks.length:=⟨_,rfl⟩;have HM:=hid hMM;rw[← hMM] at g2 hM
   have G2:Box (∀ w',za [] w w'→w'.cell? ⟨fb,fo+k * 3+2,none⟩=some (.slice ba M bcp)):=hid (by
    have h2':=B.cell;rw[← hMM] at h2';intro w' kk
    exact zb kk h2')
   have hsz:Box (∀ b,b<M→∃ bb bo c,ba=some ⟨bb,bo,none⟩∧c≤30∧Box (c=(zq (zf P k) b).code.length)∧∀ w',za [] w w'→Calls Tryz.prog 99 #[pointer (some ⟨bb,bo+b * 5,none⟩)] w' fun e w2=>e=.returned (int i64 ((c+1:Nat):Int))∧w2=w'):=hid fun b hb=>by
    obtain ⟨bb,bo,e,L⟩:=B.at (b:=b) (by rw[← HM.o];exact hb);obtain ⟨ca,ccp,hc,_⟩:=L.c0;have h9:=HS.o.code (f:=k) (b:=b) (by rw[← HN.o];exact hlt) (by rw[← HM.o];exact hb);exact ⟨bb,bo,_,e,h9,hid rfl,fun w' kk=>Z1 bb (bo+b * 5) _ ccp ca w' (zb kk hc) (by omega)⟩
   have HR1:Box (wr.ownsRow w.heap.size 99 3 u3 (ptP P k ++ ptF (zf P k) k 0).length (Z4 (ptP P k ++ ptF (zf P k) k 0))):=hid (by rw[zeD,List.append_nil];exact HR.o);have hcap:Box (∀ b,b<M→JG P k+ZZ (zf P k) (b+1)≤4500):=hid fun b hb=>HS.o.cntF (f:=k) (by rw[← HN.o];exact hlt) (by rw[← HM.o];omega);clear B hMM HR;go_wp2_with fail;have HK0:=HK;clear HK
   go_loopw [3,26] (fun lv bv wr=>∃ b:Nat,b≤M∧bv=int i64 (b:Int)∧Box (wr.ownsRow w.heap.size 99 3 lv (ptP P k ++ ptF (zf P k) k b).length (Z4 (ptP P k ++ ptF (zf P k) k b)))∧Box (za [] w wr)) (fun _ bv _=>M - (intOf bv).toNat)
   case atStart=>exact ⟨0,by omega,rfl,HR1,HK0⟩
   case round=>
    obtain ⟨b,hb,rfl,HR,HK⟩:=hrel;clear HR1 HK0 g2 g4;by_cases hlb:b<M
    ·have hlb':(b:Int)<(M:Int):=by omega
     have g4:=H4.o _ HK.o;have g2:=G2.o _ HK.o;obtain ⟨bb,bo,c,rfl,hc9,HCC,hcl⟩:=hsz.o b hlb;have HCL:=hid hcl;have hcall:=hid (hcl _ HK.o);have hcp:=hcap.o b hlb;rw[qO, ← HCC.o] at hcp;have HR2:Box (wr.ownsRow w.heap.size 99 3 u3 (ptP P k ++ ptF (zf P k) k b ++ ptB k b 0).length (Z4 (ptP P k ++ ptF (zf P k) k b ++ ptB k b 0))):=hid (by rw[zaB,List.append_nil];exact HR.o);have HL:Box (∀ i,(ptP P k ++ ptF (zf P k) k b ++ ptB k b i).length=JG P k+ZZ (zf P k) b+i):=hid fun i=>by
      rw[List.length_append,List.length_append,ZO,zab];rfl
     clear hcl HR;have hc1:(c:Int)+1≤4500:=by omega
     go_wp2_with (go_at_call 99;refine hcall.o.mono ?_;rintro e w' ⟨rfl,hw⟩;rw[hw];clear hw);have HK2:=HK;clear HK hcall
     go_loopw [3,40] (fun lv iv wr=>∃ i:Nat,i≤c+1∧iv=int i64 (i:Int)∧Box (wr.ownsRow w.heap.size 99 3 lv (ptP P k ++ ptF (zf P k) k b ++ ptB k b i).length (Z4 (ptP P k ++ ptF (zf P k) k b ++ ptB k b i)))∧Box (za [] w wr)) (fun _ iv _=>c+1 - (intOf iv).toNat)
     case atStart=>exact ⟨0,by omega,rfl,HR2,HK2⟩
     case round=>
      obtain ⟨i,hi,rfl,HR,HK⟩:=hrel;clear HR2 HK2 g2 g4;by_cases hli:i<c+1
      ·have hli':(i:Int)<(c:Int)+1:=by omega
       have hn:Box ((ptP P k ++ ptF (zf P k) k b ++ ptB k b (i+1)).length=(ptP P k ++ ptF (zf P k) k b ++ ptB k b i).length+1∧Z4 (ptP P k ++ ptF (zf P k) k b ++ ptB k b (i+1))=Z4 (ptP P k ++ ptF (zf P k) k b ++ ptB k b i) ++ [int i64 (k:Int),int i64 (b:Int),int i64 (i:Int)]):=hid (by
        rw[HL.o,HL.o,jU, ← List.append_assoc,zdW]
        exact ⟨by omega,rfl⟩)
       have hle:=HL.o i;have hks:=HK.o.size;generalize (ptP P k ++ ptF (zf P k) k b ++ ptB k b i).length=nn at HR hn hle;generalize Z4 (ptP P k ++ ptF (zf P k) k b ++ ptB k b i)=xs at HR hn;go_wp2_with (at_builtin;go_must (refine wpList_append_own _ rfl _ _ 100 rfl w.heap.size 99 Tryz.t99 (agg #[int i64 0,int i64 0,int i64 0]) 3 24 zdn zgC zgy zhE zf1 rfl (by decide) _ nn xs rfl (HR.o.alloc _) ⟨wr.heap.size,0,none⟩ 1 1 [int i64 (k:Int),int i64 (b:Int),int i64 (i:Int)] rfl rfl (World.news_of_block (cs:=#[int i64 (k:Int),int i64 (b:Int),int i64 (i:Int)]) (t:=99) (fr:=(0,0)) (heap_alloc_new wr _)) (zeb _ _ _) (by unfold maxLen;omega) (by omega) (by simp;omega) ?_;intro v' w3 hown3 hgrow3 hnil3));have hk3:za [] w w3:=(HK.o.quiet (za.alloc [] wr _)).appended HR.o hgrow3 (Nat.le_refl _);have HO3:=hid hown3;have HK3:=hid hk3;clear hgrow3 hnil3 hown3 hk3 HR HK;go_wp2_with fail;go_roundw
       case rel=>exact ⟨i+1,by omega,by go_num,hid (by rw[hn.o.1,hn.o.2];exact HO3.o),HK3⟩
       case measure=>simp[intOf];omega
      ·obtain rfl:i=c+1:=by omega
       have HR3:Box (wr.ownsRow w.heap.size 99 3 u3 (ptP P k ++ ptF (zf P k) k (b+1)).length (Z4 (ptP P k ++ ptF (zf P k) k (b+1)))):=hid (by
        rw[qr, ← HCC.o, ← List.append_assoc]
        exact HR.o)
       clear HR;go_wp2_with fail;go_roundw
       case rel=>exact ⟨b+1,by omega,by go_num,HR3,HK⟩
       case measure=>simp[intOf];omega
    ·obtain rfl:b=M:=by omega
     have HR3:Box (wr.ownsRow w.heap.size 99 3 u3 (ptP P (k+1)).length (Z4 (ptP P (k+1)))):=hid (by
      rw[jc, ← HM.o]
      exact HR.o)
     clear HR;go_wp2_with fail;go_roundw
     case rel=>exact ⟨k+1,by omega,by go_num,HR3,HK⟩
     case measure=>simp[intOf];omega
  ·obtain rfl:k=N:=by omega
   go_wp2_with fail;go_ret;obtain ⟨a,cp,e1,e2,e3,_⟩:=zfa HR.o;have e5:ptP P k=pts P:=by unfold pts;rw[HN.o]
   rw[e5] at e1 e3;exact ⟨a,cp,congrArg Ending.returned e1,e3,HK.o⟩
theorem zbF{α:Type}{l:List α}{k:Nat}{y:α}(h:l[k]? = some y):l.take (k+1)=l.take k ++ [y]:=by
 rw[List.take_add_one,h];rfl
theorem zcu{pb po:Nat}(h:PrC w pb po P)(hs:zbc P):Calls Tryz.prog 188 #[pointer (some ⟨pb,po,none⟩)] w fun e w'=>e=.returned (int i64 (qH P (pts P):Int))∧za [] w w':=by
 have HP:=hid h;have HC:=hid (j5 h hs);have HS:=hid hs.pts;clear h hs;go_enter Tryz.func188,Tryz.ntmps188;go_wp2_with fail;refine HC.o.mono ?_;rintro e w1 ⟨a,cp,rfl,hr,k1⟩;have HR:=hid hr;have HK1:=hid k1;clear hr k1 HC;obtain ⟨N,hN⟩:∃ N,N=(pts P).length:=⟨_,rfl⟩;rw[← hN];have HN:=hid hN;have hN9:(N:Int)≤4500:=by have:=HS.o;omega
 clear hN;go_wp2_with fail
 go_loopw [3,10] (fun nv kv wr=>∃ k:Nat,k≤N∧kv=int i64 (k:Int)∧nv=int i64 (qH P ((pts P).take k):Int)∧Box (za [] w1 wr)) (fun _ kv _=>N - (intOf kv).toNat)
 case atStart=>exact ⟨0,by omega,rfl,rfl,hid (za.refl _ _)⟩
 case round=>
  obtain ⟨k,hk,rfl,rfl,HK⟩:=hrel;by_cases hlt:k<N
  ·have hlt':(k:Int)<(N:Int):=by omega
   obtain ⟨f,b,i,hpt,hq⟩:=za0 (p:=P) (n:=k) (by rw[← HN.o];exact hlt);obtain ⟨lb,lo,rfl,hc⟩:=HR.o.at hq;have d0:=zb HK.o hc.c0;have d1:=zb HK.o hc.c1;have d2:=zb HK.o hc.c2;have HQ:=hid (zai P ((pts P).take k) (f,b,i));rw[← zbF hq] at HQ;have hle:=Jl P ((pts P).take k);rw[List.length_take] at hle;have hle9:qH P ((pts P).take k)≤4500:=by omega
   have HPT:=hid hpt;clear hc hq hpt hle;generalize qH P ((pts P).take k)=S at *;generalize hS2:qH P ((pts P).take (k+1))=S2 at *;have HS2:=hid hS2;clear hS2;go_upto_region 5 with fail;have h3:=zd wr (.cells #[int i64 (f:Int),int i64 (b:Int),int i64 (i:Int)] 99);have k3:=za.alloc [] wr (.cells #[int i64 (f:Int),int i64 (b:Int),int i64 (i:Int)] 99);have HK3:=hid (HK.o.quiet k3);generalize wr.alloc (.cells #[int i64 (f:Int),int i64 (b:Int),int i64 (i:Int)] 99)=w3 at *;generalize wr.heap.size=q at *;have e0:=zc h3 0;have e1:=zc h3 1;have e2:=zc h3 2;have pr:=PrC.stays _ _ _ _ _ (HK1.o.quiet HK3.o) HP.o;obtain ⟨fa,fcp,H⟩:=pr.fns;have g4:=H.cell;obtain ⟨fb,fo,ba,bcp,rfl,B⟩:=H.at HPT.o.1;have g2:=B.cell;obtain ⟨bb,bo,rfl,L⟩:=B.at HPT.o.2.1;obtain ⟨ca,ccp,g0,hrows,hccp,_⟩:=L.c0;have hff:f<P.funcs.length:=HPT.o.1;have hbb:b<(zf P f).blocks.length:=HPT.o.2.1;have hii:i≤(zq (zf P f) b).code.length:=HPT.o.2.2;have HRW:=hid hrows;have hsite:zdx P (f,b,i)=(decide (i<(zq (zf P f) b).code.length) && decide ((qm (zq (zf P f) b) i).op=5)):=rfl;rw[hsite] at HQ;have hff':(f:Int)<(P.funcs.length:Int):=by omega
   have hbb':(b:Int)<((zf P f).blocks.length:Int):=by omega
   clear pr H B L hrows h3 k3 hsite d0 d1 d2;have HCL:Box (∃ c,c=(zq (zf P f) b).code.length):=hid ⟨_,rfl⟩;obtain ⟨c,hcc⟩:=HCL.o;have HCC:=hid hcc;rw[← hcc] at g0 HQ hii;clear hcc HCL;generalize P.funcs.length=FN at *;generalize (zf P f).blocks.length=BN at *
   go_region
   by_cases hic:i<c
   ·have hic':(i:Int)<(c:Int):=by omega
    obtain ⟨cb,co,rfl,LI⟩:=HRW.o.at (show (zq (zf P f) b).code[i]? = some (qm (zq (zf P f) b) i) from zi (by rw[← HCC.o];exact hic));have l0:=LI.c0.1;clear LI;generalize (qm (zq (zf P f) b) i).op=op at *;by_cases hop:op=5
    ·have hop':=eqb hop
     have HE:Box (S2=S+1):=hid (by rw[HQ.o];simp[hic,hop]);clear HQ hop;go_wp2_with fail;go_roundw
     case rel=>exact ⟨k+1,by omega,by go_num,by rw[HS2.o,HE.o];go_num,hid (HK3.o.quiet (za.drew _ _))⟩
     case measure=>simp[intOf];omega
    ·have hop':=neb hop
     have HE:Box (S2=S):=hid (by rw[HQ.o];simp[hop]);clear HQ hop;go_wp2_with fail;go_roundw
     case rel=>exact ⟨k+1,by omega,by go_num,by rw[HS2.o,HE.o],hid (HK3.o.quiet (za.drew _ _))⟩
     case measure=>simp[intOf];omega
   ·have hic':¬ (i:Int)<(c:Int):=by omega
    have HE:Box (S2=S):=hid (by rw[HQ.o];simp[hic]);clear HQ;go_wp2_with fail;go_roundw
    case rel=>exact ⟨k+1,by omega,by go_num,by rw[HS2.o,HE.o],hid (HK3.o.quiet (za.drew _ _))⟩
    case measure=>simp[intOf];omega
  ·obtain rfl:k=N:=by omega
   have HE:Box (qH P ((pts P).take k)=qH P (pts P)):=hid (by rw[HN.o,List.take_length]);go_wp2_with fail;go_ret;exact ⟨by rw[HE.o];rfl,HK1.o.quiet HK.o⟩
theorem zO(k:Int)(n:Nat)(w:World):Calls Tryz.prog 199 #[int i64 k,int i64 (n:Int)] w fun e w'=>e=.returned (.bool (inB k n))∧w'=w:=by
 unfold inB;by_cases h0:0≤k
 ·by_cases h1:k<(n:Int)
  ·go_enter Tryz.func199,Tryz.ntmps199
   go_wp2;go_ret;simp[h0,h1]
  ·go_enter Tryz.func199,Tryz.ntmps199
   go_wp2;go_ret;simp[h1]
 ·have e:=hid (show (decide (0≤k) && decide (k<(n:Int)))=false by rw[decide_eq_false h0];rfl)
  go_enter Tryz.func199,Tryz.ntmps199;go_wp2;go_ret;exact ⟨by rw[e.o];rfl,rfl⟩
theorem zc4(w wa:World)(k:za [] w wa)(v:Value)(l:List Nat)(x:Nat)(hv:wa.ownsRow w.heap.size 3 1 v l.length (jB l))(ty:TypeId)(b c:Nat)(hb:wa.cell? ⟨b,0,none⟩=some (int i64 (x:Int)))(hl:l.length<1000):
  ∃ v' w',(Builtin.append_ #[36,36] ty #[v,.slice (some ⟨b,0,none⟩) 1 c]).run Tryz.prog wa=.ok v' w'∧w'.ownsRow w.heap.size 3 1 v' (l ++ [x]).length (jB (l ++ [x]))∧za [] w w':=by
 obtain ⟨v',w',hr,ho,hg,_⟩:=run_append_own (P:=Tryz.prog) wa w.heap.size 36 ty 3 Tryz.t3 (int i64 0) 1 8 zL qg qF qI qi rfl (by decide) v l.length (jB l) hv ⟨b,0,none⟩ 1 c [int i64 (x:Int)] rfl (fun j u e=>by
  cases j with
  | zero=>simp at e;subst e;exact hb
  | succ j=>simp at e) (fun u hu=>by simp at hu;subst hu;rfl) (by unfold maxLen;omega) (by omega) k.size
 refine ⟨v',w',hr,?_,k.appended hv hg (Nat.le_refl _)⟩;have e:jB (l ++ [x])=jB l ++ [int i64 (x:Int)]:=by unfold jB;rw[List.map_append];rfl
 rw[e,List.length_append];exact ho
theorem qe{ops:Array Oper}{rest:List Oper}{o:Oper}{a:Act}{Q:Exit→Act→World→Prop}(w0 w:World)(hgd:o.guard=none)(s x':Operand)
  (ho:o.op=.call { callee:=.builtin .append,args:=#[s,x'],argTypes:=#[36,36] })
  (l:List Nat) (x:Nat) (v:Value) (hs:a.eval s=v) (hv:w.ownsRow w0.heap.size 3 1 v l.length (jB l)) (k:za [] w0 w) (z:Int) (hz:z=(x:Int))
  (b c:Nat) (hx:a.eval x'=.slice (some ⟨b,0,none⟩) 1 c) (hb:w.cell? ⟨b,0,none⟩=some (int i64 z)) (hl:l.length<1000)
  (h:∀ v' w',w'.ownsRow w0.heap.size 3 1 v' (l ++ [x]).length (jB (l ++ [x]))→za [] w0 w'→wpList Tryz.prog ops Q rest (a.put o.dst v') w'):
  wpList Tryz.prog ops Q (o :: rest) a w:=by
 refine wpList_plain hgd fun K hK=> ?_;obtain ⟨v',w',hr,h2,h3⟩:=zc4 w0 w k v l x hv o.type b c (hz ▸ hb) hl;unfold Oper.wp execOp;simp only[ho,resolve,invoke,builtin,Sem.run_bind,Sem.run_pure,Result.andThen_ok,List.map_toArray,List.map_cons,List.map_nil,hs,hx,hr];exact hK _ _ (h v' w' h2 h3)
def zje(w w':World)(v:Value)(l:List Nat):Prop:=w'.ownsRow w.heap.size 3 1 v l.length (jB l)
theorem zar{q o:Nat}{x:Bl8}(h:BlC w q o x)(n:Nat):
  Calls Tryz.prog 200 #[pointer (some ⟨q,o,none⟩),int i64 (n:Int)] w fun e w'=>∃ v,e=.returned v∧zje w w' v (tgB n x)∧za [] w w':=by
 have c1:=h.c1.1;have c3:=h.c3.1;have c4:=h.c4.1;clear h;have HW:Box (∀ k w,Calls Tryz.prog 199 #[int i64 k,int i64 (n:Int)] w fun e w'=>e=.returned (.bool (inB k n))∧w'=w):=hid fun k w=>zO k n w;have HA:=hid (zc4 w);have HNIL:Box (w.ownsRow w.heap.size 3 1 (.slice none 0 0) 0 (jB [])):=hid (World.ownsRow_nil w _ _ _);have ct:Box (∀ v,(w.alloc (.cells #[v] 3)).cell? ⟨w.heap.size,0,none⟩=some v):=hid fun v=>by rw[World.cell?_alloc_at _ _ _ _ rfl];rfl
 unfold zje tgB;by_cases f1:x.fin=1
 ·rw[f1] at c1
  by_cases t1:inB x.to n=true
  ·have e:=hid (show (if (x.fin=1∨x.fin=2)∧inB x.to n=true then [x.to.toNat] else []) ++ (if x.fin=2∧x.els≠x.to∧inB x.els n=true then [x.els.toNat] else [])=[] ++ [x.to.toNat] by simp[f1,t1])
   have ht:=hid (show x.to=(x.to.toNat:Int) by have:=z6.1 t1;omega);rw[e.o];clear e f1;go_enter Tryz.func200,Tryz.ntmps200;go_upto_region 4 with (go_at_call 199;refine (HW.o _ _).mono ?_;rintro e w3 ⟨rfl,rfl⟩;rw[t1])
   generalize Value.slice none 0 0=v0 at HNIL ⊢;go_wp2_with (at_builtin;go_must (refine qe w3 _ rfl _ _ rfl [] x.to.toNat v0 rfl (HNIL.o.alloc _) (za.alloc [] _ _) x.to ht.o _ _ rfl (ct.o _) (by simp) ?_;intro v1 w4 ho4 hk4));have d1:=zb hk4 c1;have d3:=zb hk4 c3;have d4:=zb hk4 c4;clear c1 c3 c4;have HO4:=hid ho4;have HK4:=hid hk4;clear ho4 hk4;go_quiet (fail);go_wp2;go_ret;exact ⟨_,rfl,HO4.o,HK4.o.quiet (za.drewN [] _ _)⟩
  ·rw[Bool.not_eq_true] at t1
   have e:=hid (show (if (x.fin=1∨x.fin=2)∧inB x.to n=true then [x.to.toNat] else []) ++ (if x.fin=2∧x.els≠x.to∧inB x.els n=true then [x.els.toNat] else [])=[] by simp[f1,t1]);rw[e.o];clear e f1;go_enter Tryz.func200,Tryz.ntmps200;go_upto_region 5 with (go_at_call 199;refine (HW.o _ _).mono ?_;rintro e w3 ⟨rfl,rfl⟩;rw[t1])
   go_quiet (fail);go_wp2;go_ret;exact ⟨_,rfl,HNIL.o,(za.refl [] w3).quiet (za.drewN [] _ _)⟩
 by_cases f2:x.fin=2
 ·rw[f2] at c1
  by_cases t1:inB x.to n=true
  ·by_cases e1:x.els=x.to
   ·have e:=hid (show (if (x.fin=1∨x.fin=2)∧inB x.to n=true then [x.to.toNat] else []) ++ (if x.fin=2∧x.els≠x.to∧inB x.els n=true then [x.els.toNat] else [])=[] ++ [x.to.toNat] by simp[f2,t1,e1])
    have ht:=hid (show x.to=(x.to.toNat:Int) by have:=z6.1 t1;omega);rw[e.o];have o3:(x.els != x.to)=false:=by simpa using e1
    clear e f1 f2 e1;go_enter Tryz.func200,Tryz.ntmps200;go_upto_region 4 with (go_at_call 199;refine (HW.o _ _).mono ?_;rintro e w3 ⟨rfl,rfl⟩;rw[t1])
    generalize Value.slice none 0 0=v0 at HNIL ⊢;go_wp2_with (at_builtin;go_must (refine qe w3 _ rfl _ _ rfl [] x.to.toNat v0 rfl (HNIL.o.alloc _) (za.alloc [] _ _) x.to ht.o _ _ rfl (ct.o _) (by simp) ?_;intro v1 w4 ho4 hk4));have d1:=zb hk4 c1;have d3:=zb hk4 c3;have d4:=zb hk4 c4;clear c1 c3 c4;have HO4:=hid ho4;have HK4:=hid hk4;clear ho4 hk4;go_quiet (fail);go_wp2;go_ret;exact ⟨_,rfl,HO4.o,HK4.o.quiet (za.drewN [] _ _)⟩
   by_cases u1:inB x.els n=true
   ·have e:=hid (show (if (x.fin=1∨x.fin=2)∧inB x.to n=true then [x.to.toNat] else []) ++ (if x.fin=2∧x.els≠x.to∧inB x.els n=true then [x.els.toNat] else [])=([] ++ [x.to.toNat]) ++ [x.els.toNat] by simp[f2,t1,e1,u1])
    have ht:=hid (show x.to=(x.to.toNat:Int) by have:=z6.1 t1;omega);have hu:=hid (show x.els=(x.els.toNat:Int) by have:=z6.1 u1;omega);rw[e.o];have o3:(x.els != x.to)=true:=by simpa using e1
    clear e f1 f2 e1;have HWU:Box (∀ w,Calls Tryz.prog 199 #[int i64 x.els,int i64 (n:Int)] w fun e w'=>e=.returned (.bool true)∧w'=w):=hid fun w=>by have:=zO x.els n w;rw[u1] at this;exact this
    go_enter Tryz.func200,Tryz.ntmps200;go_upto_region 4 with (go_at_call 199;refine (HW.o _ _).mono ?_;rintro e w3 ⟨rfl,rfl⟩;rw[t1])
    generalize Value.slice none 0 0=v0 at HNIL ⊢;go_wp2_with (at_builtin;go_must (refine qe w3 _ rfl _ _ rfl [] x.to.toNat v0 rfl (HNIL.o.alloc _) (za.alloc [] _ _) x.to ht.o _ _ rfl (ct.o _) (by simp) ?_;intro v1 w4 ho4 hk4));have d1:=zb hk4 c1;have d3:=zb hk4 c3;have d4:=zb hk4 c4;clear c1 c3 c4;have HO4:=hid ho4;have HK4:=hid hk4;clear ho4 hk4;go_quiet ((go_at_call 199;exact Calls.quiet_of_same (HWU.o _)));have ct2:Box (∀ v,((w4.drewN nq).alloc (.cells #[v] 3)).cell? ⟨(w4.drewN nq).heap.size,0,none⟩=some v):=hid fun v=>by rw[World.cell?_alloc_at _ _ _ _ rfl];rfl
    have HO5:Box ((w4.drewN nq).ownsRow w3.heap.size 3 1 v1 ([] ++ [x.to.toNat]).length (jB ([] ++ [x.to.toNat]))):=hid HO4.o;have HK5:Box (za [] w3 (w4.drewN nq)):=hid (HK4.o.quiet (za.drewN [] _ _));go_wp2_with (at_builtin;go_must (refine qe w3 _ rfl _ _ rfl ([] ++ [x.to.toNat]) x.els.toNat v1 rfl (HO5.o.alloc _) (HK5.o.quiet (za.alloc [] _ _)) x.els hu.o _ _ rfl (ct2.o _) (by simp) ?_;intro v2 w5 ho5 hk5));go_ret;exact ⟨_,rfl,ho5,hk5⟩
   ·rw[Bool.not_eq_true] at u1
    have e:=hid (show (if (x.fin=1∨x.fin=2)∧inB x.to n=true then [x.to.toNat] else []) ++ (if x.fin=2∧x.els≠x.to∧inB x.els n=true then [x.els.toNat] else [])=[] ++ [x.to.toNat] by simp[f2,t1,e1,u1]);have ht:=hid (show x.to=(x.to.toNat:Int) by have:=z6.1 t1;omega);rw[e.o];have o3:(x.els != x.to)=true:=by simpa using e1
    clear e f1 f2 e1;have HWU:Box (∀ w,Calls Tryz.prog 199 #[int i64 x.els,int i64 (n:Int)] w fun e w'=>e=.returned (.bool false)∧w'=w):=hid fun w=>by have:=zO x.els n w;rw[u1] at this;exact this
    go_enter Tryz.func200,Tryz.ntmps200;go_upto_region 4 with (go_at_call 199;refine (HW.o _ _).mono ?_;rintro e w3 ⟨rfl,rfl⟩;rw[t1])
    generalize Value.slice none 0 0=v0 at HNIL ⊢;go_wp2_with (at_builtin;go_must (refine qe w3 _ rfl _ _ rfl [] x.to.toNat v0 rfl (HNIL.o.alloc _) (za.alloc [] _ _) x.to ht.o _ _ rfl (ct.o _) (by simp) ?_;intro v1 w4 ho4 hk4));have d1:=zb hk4 c1;have d3:=zb hk4 c3;have d4:=zb hk4 c4;clear c1 c3 c4;have HO4:=hid ho4;have HK4:=hid hk4;clear ho4 hk4;go_quiet ((go_at_call 199;exact Calls.quiet_of_same (HWU.o _)));go_wp2;go_ret;exact ⟨_,rfl,HO4.o,HK4.o.quiet (za.drewN [] _ _)⟩
  ·rw[Bool.not_eq_true] at t1
   by_cases e1:x.els=x.to
   ·have e:=hid (show (if (x.fin=1∨x.fin=2)∧inB x.to n=true then [x.to.toNat] else []) ++ (if x.fin=2∧x.els≠x.to∧inB x.els n=true then [x.els.toNat] else [])=[] by simp[f2,t1,e1])
    rw[e.o];have o3:(x.els != x.to)=false:=by simpa using e1
    clear e f1 f2 e1;go_enter Tryz.func200,Tryz.ntmps200;go_upto_region 5 with (go_at_call 199;refine (HW.o _ _).mono ?_;rintro e w3 ⟨rfl,rfl⟩;rw[t1])
    go_quiet (fail);go_wp2;go_ret;exact ⟨_,rfl,HNIL.o,(za.refl [] w3).quiet (za.drewN [] _ _)⟩
   by_cases u1:inB x.els n=true
   ·have e:=hid (show (if (x.fin=1∨x.fin=2)∧inB x.to n=true then [x.to.toNat] else []) ++ (if x.fin=2∧x.els≠x.to∧inB x.els n=true then [x.els.toNat] else [])=[] ++ [x.els.toNat] by simp[f2,t1,e1,u1])
    have hu:=hid (show x.els=(x.els.toNat:Int) by have:=z6.1 u1;omega);rw[e.o];have o3:(x.els != x.to)=true:=by simpa using e1
    clear e f1 f2 e1;have HWU:Box (∀ w,Calls Tryz.prog 199 #[int i64 x.els,int i64 (n:Int)] w fun e w'=>e=.returned (.bool true)∧w'=w):=hid fun w=>by have:=zO x.els n w;rw[u1] at this;exact this
    go_enter Tryz.func200,Tryz.ntmps200;go_upto_region 5 with (go_at_call 199;refine (HW.o _ _).mono ?_;rintro e w3 ⟨rfl,rfl⟩;rw[t1])
    go_quiet ((go_at_call 199;exact Calls.quiet_of_same (HWU.o _)));generalize Value.slice none 0 0=v0 at HNIL ⊢;have ct2:Box (∀ v,((w3.drewN nq).alloc (.cells #[v] 3)).cell? ⟨(w3.drewN nq).heap.size,0,none⟩=some v):=hid fun v=>by rw[World.cell?_alloc_at _ _ _ _ rfl];rfl
    have HO5:Box ((w3.drewN nq).ownsRow w3.heap.size 3 1 v0 ([]:List Nat).length (jB ([]:List Nat))):=hid HNIL.o;have HK5:Box (za [] w3 (w3.drewN nq)):=hid ((za.refl [] w3).quiet (za.drewN [] _ _));go_wp2_with (at_builtin;go_must (refine qe w3 _ rfl _ _ rfl ([]:List Nat) x.els.toNat v0 rfl (HO5.o.alloc _) (HK5.o.quiet (za.alloc [] _ _)) x.els hu.o _ _ rfl (ct2.o _) (by simp) ?_;intro v2 w5 ho5 hk5));go_ret;exact ⟨_,rfl,ho5,hk5⟩
   ·rw[Bool.not_eq_true] at u1
    have e:=hid (show (if (x.fin=1∨x.fin=2)∧inB x.to n=true then [x.to.toNat] else []) ++ (if x.fin=2∧x.els≠x.to∧inB x.els n=true then [x.els.toNat] else [])=[] by simp[f2,t1,e1,u1]);rw[e.o];have o3:(x.els != x.to)=true:=by simpa using e1
    clear e f1 f2 e1;have HWU:Box (∀ w,Calls Tryz.prog 199 #[int i64 x.els,int i64 (n:Int)] w fun e w'=>e=.returned (.bool false)∧w'=w):=hid fun w=>by have:=zO x.els n w;rw[u1] at this;exact this
    go_enter Tryz.func200,Tryz.ntmps200;go_upto_region 5 with (go_at_call 199;refine (HW.o _ _).mono ?_;rintro e w3 ⟨rfl,rfl⟩;rw[t1])
    go_quiet ((go_at_call 199;exact Calls.quiet_of_same (HWU.o _)));go_wp2;go_ret;exact ⟨_,rfl,HNIL.o,(za.refl [] w3).quiet (za.drewN [] _ _)⟩
 have e:=hid (show (if (x.fin=1∨x.fin=2)∧inB x.to n=true then [x.to.toNat] else []) ++ (if x.fin=2∧x.els≠x.to∧inB x.els n=true then [x.els.toNat] else [])=[] by simp[f1,f2]);rw[e.o];have o1:=(show (x.fin == 1)=false by simpa using f1);have o2:=(show (x.fin == 2)=false by simpa using f2);clear e f1 f2;go_enter Tryz.func200,Tryz.ntmps200;go_upto_region 5 with fail;go_quiet (fail);go_wp2;go_ret;exact ⟨_,rfl,HNIL.o,(za.refl [] w).quiet (za.drewN [] _ _)⟩
end Go.Proofs.YthflgjkmbakedaaGreatDoor
