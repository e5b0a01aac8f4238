import Derived.Test.YthflgjkmbakedaaGreatDoorRows
import Derived.Test.YthflgjkmbakedaaGreatDoorA07

namespace Go.Proofs.YthflgjkmbakedaaGreatDoor
open Go.RowKit
open Go.Value (int pointer agg)
open Go.IntKind (i64)
set_option maxRecDepth 100000
set_option maxHeartbeats 8000000
variable {P:Pr8}{pb po:Nat}{v:Value}{w w':World}{x:Fu8}
theorem zer{l:List In8}(hx:znH w v l)(m:Nat)(g:In8→Bool)(hm:m≤100)(hg:∀ w' v y,zc [] w w'→InV w v y→Calls Tryz.prog 254 #[v] w' fun e w2=>e=.returned (.bool (g y))∧zc [] w' w2):
  Calls Tryz.prog 253 #[v,int i64 (m:Int),.func (.func 254) #[] #[]] w fun e w'=>e=.returned (.bool (qF l m g))∧zc [] w w':=by
 obtain ⟨a,cp,rfl,hr,_,hl⟩:=hx;have HP:=hid hg;have HR:=hid hr;obtain ⟨n,hn⟩:∃ n,n=l.length:=⟨_,rfl⟩;rw[← hn];have HL:=hid hn;clear hg hr hl hn;by_cases hlong:m<n
 ·have hl':(m:Int)<(n:Int):=by omega
  have HE:=hid (qj (g:=g) (show m<l.length by rw[← HL.o];exact hlong));generalize qF l m g=res at *;clear hlong;go_enter Tryz.func253,Tryz.ntmps253;go_wp2;go_ret;exact ⟨by rw[HE.o];rfl,zc.refl _ _⟩
 ·have hl':¬ (m:Int)<(n:Int):=by omega
  have hn1:(n:Int)≤100:=by omega
  have HM:Box (l.length≤m):=hid (by rw[← HL.o];omega);clear hlong;go_enter Tryz.func253,Tryz.ntmps253;go_wp2_with fail
  go_loopw [14] (fun kv wr=>∃ k:Nat,k≤n∧kv=int i64 (k:Int)∧Box (zc [] w wr∧∀ j y,j<k→l[j]? = some y→g y=true)) (fun kv _=>n - (intOf kv).toNat)
  case atStart=>exact ⟨0,by omega,rfl,hid ⟨zc.refl _ _,fun j y hj=>by omega⟩⟩
  case round=>
   obtain ⟨k,hk,rfl,HB⟩:=hrel;have HK:=hid HB.o.1;by_cases hlt:k<n
   ·have hlt':(k:Int)<(n:Int):=by omega
    obtain ⟨y,hy⟩:∃ y,l[k]? = some y:=⟨_,List.getElem?_eq_getElem (by rw[← HL.o];exact hlt)⟩;obtain ⟨b,off,rfl,hc⟩:=HR.o.at hy
    skip
    obtain ⟨ar,acp,h5,q5⟩:=SlC.val hc.c5;have d0:=za HK.o hc.c0.1;have d1:=za HK.o hc.c1.1;have d2:=za HK.o hc.c2.1;have d3:=za HK.o hc.c3.1;have d4:=za HK.o hc.c4.1;have d5:=za HK.o h5;have HC:=hid (HP.o wr (agg #[int i64 y.op,int i64 y.dst,int i64 y.a,int i64 y.b,int i64 y.n,.slice ar y.args.length acp]) y HK.o (⟨ar,acp,rfl,hc.c0.2,hc.c1.2,hc.c2.2,hc.c3.2,hc.c4.2,q5⟩));have HY:=hid hy;clear hc hy h5 q5;cases hgy:g y with
    | true=>
     rw[hgy] at HC;have HG:=hid hgy;clear hgy;go_wp2_with fail;refine HC.o.mono ?_;rintro e w3 ⟨rfl,k3⟩;have K3:=hid (HK.o.quiet k3);clear k3;go_wp2_with fail;go_roundw
     case rel=>exact ⟨k+1,by omega,by go_num,hid ⟨K3.o,fun j z hj hz=>by
      by_cases e:j<k
      ·exact HB.o.2 j z e hz
      ·obtain rfl:j=k:=by omega
       rw[HY.o] at hz;cases hz
       exact HG.o⟩⟩
     case measure=>simp[intOf];omega
    | false=>
     rw[hgy] at HC;have HE:=hid (qv (m:=m) HY.o hgy);clear hgy;go_wp2_with fail;refine HC.o.mono ?_;rintro e w3 ⟨rfl,k3⟩;have K3:=hid (HK.o.quiet k3);clear k3;go_wp2_with fail;go_ret;exact ⟨by rw[HE.o];rfl,K3.o⟩
   ·obtain rfl:k=n:=by omega
    have HE:=hid (qi (g:=g) HM.o (fun j y hy=>HB.o.2 j y (by rw[HL.o];exact (List.getElem?_eq_some_iff.1 hy).1) hy));go_wp2_with fail;go_ret;exact ⟨by rw[HE.o];rfl,HK.o⟩
theorem zew{l:List Bl8}(hx:znV w v l)(m:Nat)(g:Bl8→Bool)(hm:m≤100)(hg:∀ w' v y,zc [] w w'→BlV w v y→Calls Tryz.prog 235 #[v] w' fun e w2=>e=.returned (.bool (g y))∧zc [] w' w2):
  Calls Tryz.prog 234 #[v,int i64 (m:Int),.func (.func 235) #[] #[]] w fun e w'=>e=.returned (.bool (qF l m g))∧zc [] w w':=by
 obtain ⟨a,cp,rfl,hr,_,hl⟩:=hx;have HP:=hid hg;have HR:=hid hr;obtain ⟨n,hn⟩:∃ n,n=l.length:=⟨_,rfl⟩;rw[← hn];have HL:=hid hn;clear hg hr hl hn;by_cases hlong:m<n
 ·have hl':(m:Int)<(n:Int):=by omega
  have HE:=hid (qj (g:=g) (show m<l.length by rw[← HL.o];exact hlong));generalize qF l m g=res at *;clear hlong;go_enter Tryz.func234,Tryz.ntmps234;go_wp2;go_ret;exact ⟨by rw[HE.o];rfl,zc.refl _ _⟩
 ·have hl':¬ (m:Int)<(n:Int):=by omega
  have hn1:(n:Int)≤100:=by omega
  have HM:Box (l.length≤m):=hid (by rw[← HL.o];omega);clear hlong;go_enter Tryz.func234,Tryz.ntmps234;go_wp2_with fail
  go_loopw [14] (fun kv wr=>∃ k:Nat,k≤n∧kv=int i64 (k:Int)∧Box (zc [] w wr∧∀ j y,j<k→l[j]? = some y→g y=true)) (fun kv _=>n - (intOf kv).toNat)
  case atStart=>exact ⟨0,by omega,rfl,hid ⟨zc.refl _ _,fun j y hj=>by omega⟩⟩
  case round=>
   obtain ⟨k,hk,rfl,HB⟩:=hrel;have HK:=hid HB.o.1;by_cases hlt:k<n
   ·have hlt':(k:Int)<(n:Int):=by omega
    obtain ⟨y,hy⟩:∃ y,l[k]? = some y:=⟨_,List.getElem?_eq_getElem (by rw[← HL.o];exact hlt)⟩;obtain ⟨b,off,rfl,hc⟩:=HR.o.at hy
    skip
    obtain ⟨ar,acp,h5,q5⟩:=hc.c0.val;have d0:=za HK.o hc.c1.1;have d1:=za HK.o hc.c2.1;have d2:=za HK.o hc.c3.1;have d3:=za HK.o hc.c4.1;have d4:=za HK.o h5;have HC:=hid (HP.o wr (agg #[.slice ar y.code.length acp,int i64 y.fin,int i64 y.reg,int i64 y.to,int i64 y.els]) y HK.o (⟨ar,acp,rfl,q5,hc.c1.2,hc.c2.2,hc.c3.2,hc.c4.2⟩));have HY:=hid hy;clear hc hy h5 q5;cases hgy:g y with
    | true=>
     rw[hgy] at HC;have HG:=hid hgy;clear hgy;go_wp2_with fail;refine HC.o.mono ?_;rintro e w3 ⟨rfl,k3⟩;have K3:=hid (HK.o.quiet k3);clear k3;go_wp2_with fail;go_roundw
     case rel=>exact ⟨k+1,by omega,by go_num,hid ⟨K3.o,fun j z hj hz=>by
      by_cases e:j<k
      ·exact HB.o.2 j z e hz
      ·obtain rfl:j=k:=by omega
       rw[HY.o] at hz;cases hz
       exact HG.o⟩⟩
     case measure=>simp[intOf];omega
    | false=>
     rw[hgy] at HC;have HE:=hid (qv (m:=m) HY.o hgy);clear hgy;go_wp2_with fail;refine HC.o.mono ?_;rintro e w3 ⟨rfl,k3⟩;have K3:=hid (HK.o.quiet k3);clear k3;go_wp2_with fail;go_ret;exact ⟨by rw[HE.o];rfl,K3.o⟩
   ·obtain rfl:k=n:=by omega
    have HE:=hid (qi (g:=g) HM.o (fun j y hy=>HB.o.2 j y (by rw[HL.o];exact (List.getElem?_eq_some_iff.1 hy).1) hy));go_wp2_with fail;go_ret;exact ⟨by rw[HE.o];rfl,HK.o⟩
theorem zg6{l:List Fu8}(hx:SlV 3 FuC w v l)(m:Nat)(g:Fu8→Bool)(hm:m≤100)(hg:∀ w' v y,zc [] w w'→FuV w v y→Calls Tryz.prog 187 #[v] w' fun e w2=>e=.returned (.bool (g y))∧zc [] w' w2):
  Calls Tryz.prog 186 #[v,int i64 (m:Int),.func (.func 187) #[] #[]] w fun e w'=>e=.returned (.bool (qF l m g))∧zc [] w w':=by
 obtain ⟨a,cp,rfl,hr,_,hl⟩:=hx;have HP:=hid hg;have HR:=hid hr;obtain ⟨n,hn⟩:∃ n,n=l.length:=⟨_,rfl⟩;rw[← hn];have HL:=hid hn;clear hg hr hl hn;by_cases hlong:m<n
 ·have hl':(m:Int)<(n:Int):=by omega
  have HE:=hid (qj (g:=g) (show m<l.length by rw[← HL.o];exact hlong));generalize qF l m g=res at *;clear hlong;go_enter Tryz.func186,Tryz.ntmps186;go_wp2;go_ret;exact ⟨by rw[HE.o];rfl,zc.refl _ _⟩
 ·have hl':¬ (m:Int)<(n:Int):=by omega
  have hn1:(n:Int)≤100:=by omega
  have HM:Box (l.length≤m):=hid (by rw[← HL.o];omega);clear hlong;go_enter Tryz.func186,Tryz.ntmps186;go_wp2_with fail
  go_loopw [14] (fun kv wr=>∃ k:Nat,k≤n∧kv=int i64 (k:Int)∧Box (zc [] w wr∧∀ j y,j<k→l[j]? = some y→g y=true)) (fun kv _=>n - (intOf kv).toNat)
  case atStart=>exact ⟨0,by omega,rfl,hid ⟨zc.refl _ _,fun j y hj=>by omega⟩⟩
  case round=>
   obtain ⟨k,hk,rfl,HB⟩:=hrel;have HK:=hid HB.o.1;by_cases hlt:k<n
   ·have hlt':(k:Int)<(n:Int):=by omega
    obtain ⟨y,hy⟩:∃ y,l[k]? = some y:=⟨_,List.getElem?_eq_getElem (by rw[← HL.o];exact hlt)⟩;obtain ⟨b,off,rfl,hc⟩:=HR.o.at hy
    skip
    obtain ⟨ar,acp,h5,q5⟩:=hc.c1.val;obtain ⟨br,bcp,h6,q6⟩:=hc.c2.val;have d0:=za HK.o hc.c0.1;have d1:=za HK.o h5;have d2:=za HK.o h6;have HC:=hid (HP.o wr (agg #[int i64 y.sig,.slice ar y.regs.length acp,.slice br y.blocks.length bcp]) y HK.o (⟨ar,acp,br,bcp,rfl,hc.c0.2,q5,q6⟩));have HY:=hid hy;clear hc hy h5 q5 h6 q6;cases hgy:g y with
    | true=>
     rw[hgy] at HC;have HG:=hid hgy;clear hgy;go_wp2_with fail;refine HC.o.mono ?_;rintro e w3 ⟨rfl,k3⟩;have K3:=hid (HK.o.quiet k3);clear k3;go_wp2_with fail;go_roundw
     case rel=>exact ⟨k+1,by omega,by go_num,hid ⟨K3.o,fun j z hj hz=>by
      by_cases e:j<k
      ·exact HB.o.2 j z e hz
      ·obtain rfl:j=k:=by omega
       rw[HY.o] at hz;cases hz
       exact HG.o⟩⟩
     case measure=>simp[intOf];omega
    | false=>
     rw[hgy] at HC;have HE:=hid (qv (m:=m) HY.o hgy);clear hgy;go_wp2_with fail;refine HC.o.mono ?_;rintro e w3 ⟨rfl,k3⟩;have K3:=hid (HK.o.quiet k3);clear k3;go_wp2_with fail;go_ret;exact ⟨by rw[HE.o];rfl,K3.o⟩
   ·obtain rfl:k=n:=by omega
    have HE:=hid (qi (g:=g) HM.o (fun j y hy=>HB.o.2 j y (by rw[HL.o];exact (List.getElem?_eq_some_iff.1 hy).1) hy));go_wp2_with fail;go_ret;exact ⟨by rw[HE.o];rfl,HK.o⟩
theorem ziX{l:List (List (Int × Int))}(hx:SlV 1 (SlC 2 TyC) w v l)(m:Nat)(g:(List (Int × Int))→Bool)(hm:m≤100)(hg:∀ w' v y,zc [] w w'→zlv w v y→Calls Tryz.prog 179 #[v] w' fun e w2=>e=.returned (.bool (g y))∧zc [] w' w2):
  Calls Tryz.prog 178 #[v,int i64 (m:Int),.func (.func 179) #[] #[]] w fun e w'=>e=.returned (.bool (qF l m g))∧zc [] w w':=by
 obtain ⟨a,cp,rfl,hr,_,hl⟩:=hx;have HP:=hid hg;have HR:=hid hr;obtain ⟨n,hn⟩:∃ n,n=l.length:=⟨_,rfl⟩;rw[← hn];have HL:=hid hn;clear hg hr hl hn;by_cases hlong:m<n
 ·have hl':(m:Int)<(n:Int):=by omega
  have HE:=hid (qj (g:=g) (show m<l.length by rw[← HL.o];exact hlong));generalize qF l m g=res at *;clear hlong;go_enter Tryz.func178,Tryz.ntmps178;go_wp2;go_ret;exact ⟨by rw[HE.o];rfl,zc.refl _ _⟩
 ·have hl':¬ (m:Int)<(n:Int):=by omega
  have hn1:(n:Int)≤100:=by omega
  have HM:Box (l.length≤m):=hid (by rw[← HL.o];omega);clear hlong;go_enter Tryz.func178,Tryz.ntmps178;go_wp2_with fail
  go_loopw [14] (fun kv wr=>∃ k:Nat,k≤n∧kv=int i64 (k:Int)∧Box (zc [] w wr∧∀ j y,j<k→l[j]? = some y→g y=true)) (fun kv _=>n - (intOf kv).toNat)
  case atStart=>exact ⟨0,by omega,rfl,hid ⟨zc.refl _ _,fun j y hj=>by omega⟩⟩
  case round=>
   obtain ⟨k,hk,rfl,HB⟩:=hrel;have HK:=hid HB.o.1;by_cases hlt:k<n
   ·have hlt':(k:Int)<(n:Int):=by omega
    obtain ⟨y,hy⟩:∃ y,l[k]? = some y:=⟨_,List.getElem?_eq_getElem (by rw[← HL.o];exact hlt)⟩;obtain ⟨b,off,rfl,hc⟩:=HR.o.at hy;rw[Nat.mul_one] at hc;obtain ⟨ar,acp,h5,q5⟩:=hc.val;have d0:=za HK.o h5;have HC:=hid (HP.o wr (.slice ar y.length acp) y HK.o (q5));have HY:=hid hy;clear hc hy h5 q5;cases hgy:g y with
    | true=>
     rw[hgy] at HC;have HG:=hid hgy;clear hgy;go_wp2_with fail;refine HC.o.mono ?_;rintro e w3 ⟨rfl,k3⟩;have K3:=hid (HK.o.quiet k3);clear k3;go_wp2_with fail;go_roundw
     case rel=>exact ⟨k+1,by omega,by go_num,hid ⟨K3.o,fun j z hj hz=>by
      by_cases e:j<k
      ·exact HB.o.2 j z e hz
      ·obtain rfl:j=k:=by omega
       rw[HY.o] at hz;cases hz
       exact HG.o⟩⟩
     case measure=>simp[intOf];omega
    | false=>
     rw[hgy] at HC;have HE:=hid (qv (m:=m) HY.o hgy);clear hgy;go_wp2_with fail;refine HC.o.mono ?_;rintro e w3 ⟨rfl,k3⟩;have K3:=hid (HK.o.quiet k3);clear k3;go_wp2_with fail;go_ret;exact ⟨by rw[HE.o];rfl,K3.o⟩
   ·obtain rfl:k=n:=by omega
    have HE:=hid (qi (g:=g) HM.o (fun j y hy=>HB.o.2 j y (by rw[HL.o];exact (List.getElem?_eq_some_iff.1 hy).1) hy));go_wp2_with fail;go_ret;exact ⟨by rw[HE.o];rfl,HK.o⟩
theorem ziY{l:List (List (Int × Int) × Int × Int)}(hx:SlV 3 SgC w v l)(m:Nat)(g:(List (Int × Int) × Int × Int)→Bool)(hm:m≤100)(hg:∀ w' v y,zc [] w w'→SgV w v y→Calls Tryz.prog 181 #[v] w' fun e w2=>e=.returned (.bool (g y))∧zc [] w' w2):
  Calls Tryz.prog 180 #[v,int i64 (m:Int),.func (.func 181) #[] #[]] w fun e w'=>e=.returned (.bool (qF l m g))∧zc [] w w':=by
 obtain ⟨a,cp,rfl,hr,_,hl⟩:=hx;have HP:=hid hg;have HR:=hid hr;obtain ⟨n,hn⟩:∃ n,n=l.length:=⟨_,rfl⟩;rw[← hn];have HL:=hid hn;clear hg hr hl hn;by_cases hlong:m<n
 ·have hl':(m:Int)<(n:Int):=by omega
  have HE:=hid (qj (g:=g) (show m<l.length by rw[← HL.o];exact hlong));generalize qF l m g=res at *;clear hlong;go_enter Tryz.func180,Tryz.ntmps180;go_wp2;go_ret;exact ⟨by rw[HE.o];rfl,zc.refl _ _⟩
 ·have hl':¬ (m:Int)<(n:Int):=by omega
  have hn1:(n:Int)≤100:=by omega
  have HM:Box (l.length≤m):=hid (by rw[← HL.o];omega);clear hlong;go_enter Tryz.func180,Tryz.ntmps180;go_wp2_with fail
  go_loopw [14] (fun kv wr=>∃ k:Nat,k≤n∧kv=int i64 (k:Int)∧Box (zc [] w wr∧∀ j y,j<k→l[j]? = some y→g y=true)) (fun kv _=>n - (intOf kv).toNat)
  case atStart=>exact ⟨0,by omega,rfl,hid ⟨zc.refl _ _,fun j y hj=>by omega⟩⟩
  case round=>
   obtain ⟨k,hk,rfl,HB⟩:=hrel;have HK:=hid HB.o.1;by_cases hlt:k<n
   ·have hlt':(k:Int)<(n:Int):=by omega
    obtain ⟨y,hy⟩:∃ y,l[k]? = some y:=⟨_,List.getElem?_eq_getElem (by rw[← HL.o];exact hlt)⟩;obtain ⟨b,off,rfl,hc⟩:=HR.o.at hy
    skip
    obtain ⟨ar,acp,h5,q5⟩:=hc.c0.val;have d0:=za HK.o hc.c1.1;have d1:=za HK.o hc.c2.1;have d2:=za HK.o h5;have HC:=hid (HP.o wr (agg #[.slice ar y.1.length acp,int i64 y.2.1,int i64 y.2.2]) y HK.o (⟨ar,acp,rfl,q5,hc.c1.2,hc.c2.2⟩));have HY:=hid hy;clear hc hy h5 q5;cases hgy:g y with
    | true=>
     rw[hgy] at HC;have HG:=hid hgy;clear hgy;go_wp2_with fail;refine HC.o.mono ?_;rintro e w3 ⟨rfl,k3⟩;have K3:=hid (HK.o.quiet k3);clear k3;go_wp2_with fail;go_roundw
     case rel=>exact ⟨k+1,by omega,by go_num,hid ⟨K3.o,fun j z hj hz=>by
      by_cases e:j<k
      ·exact HB.o.2 j z e hz
      ·obtain rfl:j=k:=by omega
       rw[HY.o] at hz;cases hz
       exact HG.o⟩⟩
     case measure=>simp[intOf];omega
    | false=>
     rw[hgy] at HC;have HE:=hid (qv (m:=m) HY.o hgy);clear hgy;go_wp2_with fail;refine HC.o.mono ?_;rintro e w3 ⟨rfl,k3⟩;have K3:=hid (HK.o.quiet k3);clear k3;go_wp2_with fail;go_ret;exact ⟨by rw[HE.o];rfl,K3.o⟩
   ·obtain rfl:k=n:=by omega
    have HE:=hid (qi (g:=g) HM.o (fun j y hy=>HB.o.2 j y (by rw[HL.o];exact (List.getElem?_eq_some_iff.1 hy).1) hy));go_wp2_with fail;go_ret;exact ⟨by rw[HE.o];rfl,HK.o⟩
theorem zey{l:List (List Int)}(hx:SlV 1 J6 w v l)(m:Nat)(g:(List Int)→Bool)(hm:m≤100)(hg:∀ w' v y,zc [] w w'→IfV w v y→Calls Tryz.prog 183 #[v] w' fun e w2=>e=.returned (.bool (g y))∧zc [] w' w2):
  Calls Tryz.prog 182 #[v,int i64 (m:Int),.func (.func 183) #[] #[]] w fun e w'=>e=.returned (.bool (qF l m g))∧zc [] w w':=by
 obtain ⟨a,cp,rfl,hr,_,hl⟩:=hx;have HP:=hid hg;have HR:=hid hr;obtain ⟨n,hn⟩:∃ n,n=l.length:=⟨_,rfl⟩;rw[← hn];have HL:=hid hn;clear hg hr hl hn;by_cases hlong:m<n
 ·have hl':(m:Int)<(n:Int):=by omega
  have HE:=hid (qj (g:=g) (show m<l.length by rw[← HL.o];exact hlong));generalize qF l m g=res at *;clear hlong;go_enter Tryz.func182,Tryz.ntmps182;go_wp2;go_ret;exact ⟨by rw[HE.o];rfl,zc.refl _ _⟩
 ·have hl':¬ (m:Int)<(n:Int):=by omega
  have hn1:(n:Int)≤100:=by omega
  have HM:Box (l.length≤m):=hid (by rw[← HL.o];omega);clear hlong;go_enter Tryz.func182,Tryz.ntmps182;go_wp2_with fail
  go_loopw [14] (fun kv wr=>∃ k:Nat,k≤n∧kv=int i64 (k:Int)∧Box (zc [] w wr∧∀ j y,j<k→l[j]? = some y→g y=true)) (fun kv _=>n - (intOf kv).toNat)
  case atStart=>exact ⟨0,by omega,rfl,hid ⟨zc.refl _ _,fun j y hj=>by omega⟩⟩
  case round=>
   obtain ⟨k,hk,rfl,HB⟩:=hrel;have HK:=hid HB.o.1;by_cases hlt:k<n
   ·have hlt':(k:Int)<(n:Int):=by omega
    obtain ⟨y,hy⟩:∃ y,l[k]? = some y:=⟨_,List.getElem?_eq_getElem (by rw[← HL.o];exact hlt)⟩;obtain ⟨b,off,rfl,hc⟩:=HR.o.at hy;rw[Nat.mul_one] at hc;obtain ⟨ar,acp,h5,q5⟩:=SlC.val hc;have d0:=za HK.o h5;have HC:=hid (HP.o wr (agg #[.slice ar y.length acp]) y HK.o (⟨ar,acp,rfl,q5⟩));have HY:=hid hy;clear hc hy h5 q5;cases hgy:g y with
    | true=>
     rw[hgy] at HC;have HG:=hid hgy;clear hgy;go_wp2_with fail;refine HC.o.mono ?_;rintro e w3 ⟨rfl,k3⟩;have K3:=hid (HK.o.quiet k3);clear k3;go_wp2_with fail;go_roundw
     case rel=>exact ⟨k+1,by omega,by go_num,hid ⟨K3.o,fun j z hj hz=>by
      by_cases e:j<k
      ·exact HB.o.2 j z e hz
      ·obtain rfl:j=k:=by omega
       rw[HY.o] at hz;cases hz
       exact HG.o⟩⟩
     case measure=>simp[intOf];omega
    | false=>
     rw[hgy] at HC;have HE:=hid (qv (m:=m) HY.o hgy);clear hgy;go_wp2_with fail;refine HC.o.mono ?_;rintro e w3 ⟨rfl,k3⟩;have K3:=hid (HK.o.quiet k3);clear k3;go_wp2_with fail;go_ret;exact ⟨by rw[HE.o];rfl,K3.o⟩
   ·obtain rfl:k=n:=by omega
    have HE:=hid (qi (g:=g) HM.o (fun j y hy=>HB.o.2 j y (by rw[HL.o];exact (List.getElem?_eq_some_iff.1 hy).1) hy));go_wp2_with fail;go_ret;exact ⟨by rw[HE.o];rfl,HK.o⟩
theorem zgI{l:List (Int × Int × List Int)}(hx:SlV 3 ImC w v l)(m:Nat)(g:(Int × Int × List Int)→Bool)(hm:m≤100)(hg:∀ w' v y,zc [] w w'→ImV w v y→Calls Tryz.prog 185 #[v] w' fun e w2=>e=.returned (.bool (g y))∧zc [] w' w2):
  Calls Tryz.prog 184 #[v,int i64 (m:Int),.func (.func 185) #[] #[]] w fun e w'=>e=.returned (.bool (qF l m g))∧zc [] w w':=by
 obtain ⟨a,cp,rfl,hr,_,hl⟩:=hx;have HP:=hid hg;have HR:=hid hr;obtain ⟨n,hn⟩:∃ n,n=l.length:=⟨_,rfl⟩;rw[← hn];have HL:=hid hn;clear hg hr hl hn;by_cases hlong:m<n
 ·have hl':(m:Int)<(n:Int):=by omega
  have HE:=hid (qj (g:=g) (show m<l.length by rw[← HL.o];exact hlong));generalize qF l m g=res at *;clear hlong;go_enter Tryz.func184,Tryz.ntmps184;go_wp2;go_ret;exact ⟨by rw[HE.o];rfl,zc.refl _ _⟩
 ·have hl':¬ (m:Int)<(n:Int):=by omega
  have hn1:(n:Int)≤100:=by omega
  have HM:Box (l.length≤m):=hid (by rw[← HL.o];omega);clear hlong;go_enter Tryz.func184,Tryz.ntmps184;go_wp2_with fail
  go_loopw [14] (fun kv wr=>∃ k:Nat,k≤n∧kv=int i64 (k:Int)∧Box (zc [] w wr∧∀ j y,j<k→l[j]? = some y→g y=true)) (fun kv _=>n - (intOf kv).toNat)
  case atStart=>exact ⟨0,by omega,rfl,hid ⟨zc.refl _ _,fun j y hj=>by omega⟩⟩
  case round=>
   obtain ⟨k,hk,rfl,HB⟩:=hrel;have HK:=hid HB.o.1;by_cases hlt:k<n
   ·have hlt':(k:Int)<(n:Int):=by omega
    obtain ⟨y,hy⟩:∃ y,l[k]? = some y:=⟨_,List.getElem?_eq_getElem (by rw[← HL.o];exact hlt)⟩;obtain ⟨b,off,rfl,hc⟩:=HR.o.at hy
    skip
    obtain ⟨ar,acp,h5,q5⟩:=SlC.val hc.c2;have d0:=za HK.o hc.c0.1;have d1:=za HK.o hc.c1.1;have d2:=za HK.o h5;have HC:=hid (HP.o wr (agg #[int i64 y.1,int i64 y.2.1,.slice ar y.2.2.length acp]) y HK.o (⟨ar,acp,rfl,hc.c0.2,hc.c1.2,q5⟩));have HY:=hid hy;clear hc hy h5 q5;cases hgy:g y with
    | true=>
     rw[hgy] at HC;have HG:=hid hgy;clear hgy;go_wp2_with fail;refine HC.o.mono ?_;rintro e w3 ⟨rfl,k3⟩;have K3:=hid (HK.o.quiet k3);clear k3;go_wp2_with fail;go_roundw
     case rel=>exact ⟨k+1,by omega,by go_num,hid ⟨K3.o,fun j z hj hz=>by
      by_cases e:j<k
      ·exact HB.o.2 j z e hz
      ·obtain rfl:j=k:=by omega
       rw[HY.o] at hz;cases hz
       exact HG.o⟩⟩
     case measure=>simp[intOf];omega
    | false=>
     rw[hgy] at HC;have HE:=hid (qv (m:=m) HY.o hgy);clear hgy;go_wp2_with fail;refine HC.o.mono ?_;rintro e w3 ⟨rfl,k3⟩;have K3:=hid (HK.o.quiet k3);clear k3;go_wp2_with fail;go_ret;exact ⟨by rw[HE.o];rfl,K3.o⟩
   ·obtain rfl:k=n:=by omega
    have HE:=hid (qi (g:=g) HM.o (fun j y hy=>HB.o.2 j y (by rw[HL.o];exact (List.getElem?_eq_some_iff.1 hy).1) hy));go_wp2_with fail;go_ret;exact ⟨by rw[HE.o];rfl,HK.o⟩
theorem zdV{y:In8}(h:InV w v y):Calls Tryz.prog 254 #[v] w' fun e w2=>e=.returned (.bool (zdC y))∧zc [] w' w2:=by
 obtain ⟨a,cp,rfl,_⟩:=h;have hd:(decide ((y.args.length:Int)≤4))=zdC y:=by
  show _=decide _
  congr 1
  exact propext ⟨fun h=>by omega,fun h=>by omega⟩
 have HD:=hid hd;clear hd;generalize zdC y=res at *;generalize y.args.length=n at *;go_enter Tryz.func254,Tryz.ntmps254;go_wp2;go_ret;exact ⟨by first | (rw[← HD.o];rfl) | (rw[← HD.o];simp),by first | exact zc.refl _ _ | exact zc.alloc _ _ _⟩
theorem zi7{y:List (Int × Int)}(h:zlv w v y):Calls Tryz.prog 179 #[v] w' fun e w2=>e=.returned (.bool (zc7 y))∧zc [] w' w2:=by
 obtain ⟨a,cp,rfl,_⟩:=h;have hd:(decide ((y.length:Int)≤4))=zc7 y:=by
  show _=decide _
  congr 1
  exact propext ⟨fun h=>by omega,fun h=>by omega⟩
 have HD:=hid hd;clear hd;generalize zc7 y=res at *;generalize y.length=n at *;go_enter Tryz.func179,Tryz.ntmps179;go_wp2;go_ret;exact ⟨by first | (rw[← HD.o];rfl) | (rw[← HD.o];simp),by first | exact zc.refl _ _ | exact zc.alloc _ _ _⟩
theorem zin{y:(List (Int × Int) × Int × Int)}(h:SgV w v y):Calls Tryz.prog 181 #[v] w' fun e w2=>e=.returned (.bool (zcw y))∧zc [] w' w2:=by
 obtain ⟨a,cp,rfl,_⟩:=h;have hd:(decide ((y.1.length:Int)≤4))=zcw y:=by
  show _=decide _
  congr 1
  exact propext ⟨fun h=>by omega,fun h=>by omega⟩
 have HD:=hid hd;clear hd;generalize zcw y=res at *;generalize y.1.length=n at *;go_enter Tryz.func181,Tryz.ntmps181;go_wp2;go_ret;exact ⟨by first | (rw[← HD.o];rfl) | (rw[← HD.o];simp),by first | exact zc.refl _ _ | exact zc.alloc _ _ _⟩
theorem ze8{y:List Int}(h:IfV w v y):Calls Tryz.prog 183 #[v] w' fun e w2=>e=.returned (.bool (ifB y))∧zc [] w' w2:=by
 obtain ⟨a,cp,rfl,_⟩:=h;have hd:(decide ((y.length:Int)≤3))=ifB y:=by
  show _=decide _
  congr 1
  exact propext ⟨fun h=>by omega,fun h=>by omega⟩
 have HD:=hid hd;clear hd;generalize ifB y=res at *;generalize y.length=n at *;go_enter Tryz.func183,Tryz.ntmps183;go_wp2;go_ret;exact ⟨by first | (rw[← HD.o];rfl) | (rw[← HD.o];simp),by first | exact zc.refl _ _ | exact zc.alloc _ _ _⟩
theorem zgV{y:(Int × Int × List Int)}(h:ImV w v y):Calls Tryz.prog 185 #[v] w' fun e w2=>e=.returned (.bool (imB y))∧zc [] w' w2:=by
 obtain ⟨a,cp,rfl,_⟩:=h;have hd:(decide ((y.2.2.length:Int)≤3))=imB y:=by
  show _=decide _
  congr 1
  exact propext ⟨fun h=>by omega,fun h=>by omega⟩
 have HD:=hid hd;clear hd;generalize imB y=res at *;generalize y.2.2.length=n at *;go_enter Tryz.func185,Tryz.ntmps185;go_wp2;go_ret;exact ⟨by first | (rw[← HD.o];rfl) | (rw[← HD.o];simp),by first | exact zc.refl _ _ | exact zc.alloc _ _ _⟩
theorem SlV.keeps{α:Type}{c:Nat}{R:World→Nat→Nat→α→Prop}{l:List α}(hR:Q4 R)(h:SlV c R w v l)(k:zc [] w w'):SlV c R w' v l:=by
 obtain ⟨a,cp,h1,h2,h3⟩:=h;exact ⟨a,cp,h1,h2.quiet hR k,h3⟩
theorem zdT{y:Bl8}(hk:zc [] w w')(h:BlV w v y):Calls Tryz.prog 235 #[v] w' fun e w2=>e=.returned (.bool (zbZ y))∧zc [] w' w2:=by
 obtain ⟨a,cp,rfl,hc,h1,h2,h3,h4⟩:=h;have ka:=zc.alloc [] w' (.cells #[.slice a y.code.length cp,int i64 y.fin,int i64 y.reg,int i64 y.to,int i64 y.els] 57);have HC:=hid (zer (hc.keeps InC.stays (hk.quiet ka)) 30 zdC (by omega) fun w3 v z _ hv=>zdV hv);have HK:=hid ka;clear hc ka hk;go_enter Tryz.func235,Tryz.ntmps235;go_wp2_with fail;refine HC.o.mono ?_;rintro e w3 ⟨rfl,k3⟩;have K3:=hid (HK.o.quiet k3);clear k3;have HB:Box (qF y.code 30 zdC=zbZ y):=hid rfl;rw[HB.o];go_wp2_with fail;go_ret;exact ⟨rfl,K3.o⟩
theorem zgr{y:Fu8}(hk:zc [] w w')(h:FuV w v y):Calls Tryz.prog 187 #[v] w' fun e w2=>e=.returned (.bool (fnB y))∧zc [] w' w2:=by
 obtain ⟨a,cp,a',cp',rfl,h1,h2,h3⟩:=h;have ka:=zc.alloc [] w' (.cells #[int i64 y.sig,.slice a y.regs.length cp,.slice a' y.blocks.length cp'] 50);have HC:=hid (zew (h3.keeps BlC.stays (hk.quiet ka)) 12 zbZ (by omega) fun w3 v z k hv=>zdT k hv);have HK:=hid ka;have HE:Box (fnB y=(decide (y.regs.length≤16) && (decide (0<y.blocks.length) && qF y.blocks 12 zbZ))):=hid rfl;clear h2 h3 ka hk h1;generalize fnB y=res at *;generalize qF y.blocks 12 zbZ=r2 at *;generalize y.regs.length=n at *;generalize y.blocks.length=m at *;by_cases g1:n≤16
 ·have g1':(n:Int)≤16:=by omega
  by_cases g2:0<m
  ·have g2':(0:Int)<(m:Int):=by omega
   have HR:Box (res=r2):=hid (by rw[HE.o];simp[g1,g2]);clear HE;go_enter Tryz.func187,Tryz.ntmps187;go_wp2_with fail;refine HC.o.mono ?_;rintro e w3 ⟨rfl,k3⟩;have K3:=hid (HK.o.quiet k3);clear k3;go_wp2_with fail;go_ret;exact ⟨by rw[HR.o];rfl,K3.o⟩
  ·have g2':¬ (0:Int)<(m:Int):=by omega
   have HR:Box (res=false):=hid (by rw[HE.o];simp[g2]);clear HE;go_enter Tryz.func187,Tryz.ntmps187;go_wp2_with fail;go_ret;exact ⟨by rw[HR.o];rfl,HK.o⟩
 ·have g1':¬ (n:Int)≤16:=by omega
  have HR:Box (res=false):=hid (by rw[HE.o];simp[g1]);clear HE;go_enter Tryz.func187,Tryz.ntmps187;go_wp2_with fail;go_ret;exact ⟨by rw[HR.o];rfl,HK.o⟩
theorem Zy(h:qF P.funcs 12 fnB=true):zcu P:=by
 have hf:∀ f,f<P.funcs.length→fnB (zf P f)=true:=fun f hf=>Za h (zg hf);have hb:∀ f,f<P.funcs.length→qF (zf P f).blocks 12 zbZ=true:=fun f h1=>by
  have:=hf f h1;unfold fnB at this;simp only[Bool.and_eq_true] at this;exact this.2.2
 refine ⟨jD h,fun f h1=>jD (hb f h1),fun {f b} h1 h2=> ?_⟩;have h3:=Za (hb f h1) (show (zf P f).blocks[b]? = some (zr (zf P f) b) from zg h2);unfold zbZ at h3;exact jD h3
theorem zcQ(h:PrC w pb po P):Calls Tryz.prog 119 #[pointer (some ⟨pb,po,none⟩)] w fun e w'=>e=.returned (.bool (qJ P))∧zc [] w w':=by
 have HP:=hid h;obtain ⟨a0,p0,c0,v0⟩:=SlC.val h.c0;have C0:Box (∀ w',zc [] w w'→w'.cell? ⟨pb,po,none⟩=some (.slice a0 P.recs.length p0)):=hid fun w' k=>za k c0;have H0:=hid fun (w':World) (k:zc [] w w')=>ziX (v0.keeps (SlC.stays TyC.stays) k) 6 zc7 (by omega) fun w3 v z kk hv=>zi7 hv;obtain ⟨a1,p1,c1,v1⟩:=SlC.val h.c1;have C1:Box (∀ w',zc [] w w'→w'.cell? ⟨pb,po+1,none⟩=some (.slice a1 P.sigs.length p1)):=hid fun w' k=>za k c1;have H1:=hid fun (w':World) (k:zc [] w w')=>ziY (v1.keeps (SgC.stays) k) 10 zcw (by omega) fun w3 v z kk hv=>zin hv;obtain ⟨a2,p2,c2,v2⟩:=SlC.val h.c2;have C2:Box (∀ w',zc [] w w'→w'.cell? ⟨pb,po+2,none⟩=some (.slice a2 P.ifs.length p2)):=hid fun w' k=>za k c2;have H2:=hid fun (w':World) (k:zc [] w w')=>zey (v2.keeps (J6.stays) k) 4 ifB (by omega) fun w3 v z kk hv=>ze8 hv;obtain ⟨a3,p3,c3,v3⟩:=SlC.val h.c3;have C3:Box (∀ w',zc [] w w'→w'.cell? ⟨pb,po+3,none⟩=some (.slice a3 P.ims.length p3)):=hid fun w' k=>za k c3;have H3:=hid fun (w':World) (k:zc [] w w')=>zgI (v3.keeps (ImC.stays) k) 12 imB (by omega) fun w3 v z kk hv=>zgV hv;obtain ⟨a4,p4,c4,v4⟩:=SlC.val h.c4;have C4:Box (∀ w',zc [] w w'→w'.cell? ⟨pb,po+4,none⟩=some (.slice a4 P.funcs.length p4)):=hid fun w' k=>za k c4;have H4:=hid fun (w':World) (k:zc [] w w')=>zg6 (v4.keeps (FuC.stays) k) 12 fnB (by omega) fun w3 v z kk hv=>zgr kk hv;have HPT:=hid fun (w':World) (k:zc [] w w') (hs:qF P.funcs 12 fnB=true)=>Qb (PrC.stays _ _ _ _ _ k HP.o) (Zy hs);have HST:=hid fun (w':World) (k:zc [] w w') (hs:qF P.funcs 12 fnB=true)=>zgm (PrC.stays _ _ _ _ _ k HP.o) (Zy hs);have hNs:=fun (hs:qF P.funcs 12 fnB=true)=>(Zy hs).pts;have hSs:=zae P (pts P);have HE:Box (qJ P=(zen P && (decide ((pts P).length≤600) && decide (jA P (pts P)≤40)))):=hid rfl;have HT:Box (zen P=(decide (0<P.funcs.length) && (qF P.recs 6 zc7 && (qF P.sigs 10 zcw && (qF P.ifs 4 ifB && (qF P.ims 12 imB && qF P.funcs 12 fnB)))))):=hid rfl;rw[HT.o] at HE;clear h HT HP v0 v1 v2 v3 v4 c0 c1 c2 c3 c4;generalize qJ P=res at *;generalize qF P.recs 6 zc7=r0 at *;generalize qF P.sigs 10 zcw=r1 at *;generalize qF P.ifs 4 ifB=r2 at *;generalize qF P.ims 12 imB=r3 at *;generalize qF P.funcs 12 fnB=r4 at *;generalize hNN:(pts P).length=NN at *;generalize jA P (pts P)=SS at *;generalize P.recs.length=n0 at *;generalize P.sigs.length=n1 at *;generalize P.ifs.length=n2 at *;generalize P.ims.length=n3 at *;generalize P.funcs.length=n4 at *;have d4:=C4.o _ (zc.refl _ _);have HNN:=hid hNN;clear hNN;by_cases hpos:0<n4
 case neg=>
  have hpos':¬ (0:Int)<(n4:Int):=by omega
  have HR:Box (res=false):=hid (by rw[HE.o];simp[hpos]);clear HE;go_enter Tryz.func119,Tryz.ntmps119;go_wp2_with fail;go_ret;exact ⟨by rw[HR.o];rfl,zc.refl _ _⟩
 have hpos':(0:Int)<(n4:Int):=by omega
 have HE1:Box (res=(r0 && (r1 && (r2 && (r3 && (r4 && (decide (NN≤600) && decide (SS≤40)))))))):=hid (by rw[HE.o];simp[hpos,Bool.and_assoc]);clear HE hpos;have d0:=C0.o _ (zc.refl _ _);go_enter Tryz.func119,Tryz.ntmps119;go_wp2_with fail;have K0:=hid (zc.refl [] w);refine (H0.o _ K0.o).mono ?_;rintro e w1 ⟨rfl,k1⟩;have K1:=hid (K0.o.quiet k1);clear k1 d0 d4;cases r0
 case false=>
  have HR:Box (res=false):=hid (by rw[HE1.o];simp);clear HE1;go_wp2_with fail;go_ret;exact ⟨by rw[HR.o];rfl,K1.o⟩
 have d1:=C1.o _ K1.o;go_wp2_with fail;refine (H1.o _ K1.o).mono ?_;rintro e w2 ⟨rfl,k2⟩;have K2:=hid (K1.o.quiet k2);clear k2 d1;cases r1
 case false=>
  have HR:Box (res=false):=hid (by rw[HE1.o];simp);clear HE1;go_wp2_with fail;go_ret;exact ⟨by rw[HR.o];rfl,K2.o⟩
 have d2:=C2.o _ K2.o;go_wp2_with fail;refine (H2.o _ K2.o).mono ?_;rintro e w3 ⟨rfl,k3⟩;have K3:=hid (K2.o.quiet k3);clear k3 d2;cases r2
 case false=>
  have HR:Box (res=false):=hid (by rw[HE1.o];simp);clear HE1;go_wp2_with fail;go_ret;exact ⟨by rw[HR.o];rfl,K3.o⟩
 have d3:=C3.o _ K3.o;go_wp2_with fail;refine (H3.o _ K3.o).mono ?_;rintro e w4 ⟨rfl,k4⟩;have K4:=hid (K3.o.quiet k4);clear k4 d3;cases r3
 case false=>
  have HR:Box (res=false):=hid (by rw[HE1.o];simp);clear HE1;go_wp2_with fail;go_ret;exact ⟨by rw[HR.o];rfl,K4.o⟩
 have d4:=C4.o _ K4.o;go_wp2_with fail;refine (H4.o _ K4.o).mono ?_;rintro e w5 ⟨rfl,k5⟩;have K5:=hid (K4.o.quiet k5);clear k5 d4;cases r4
 case false=>
  have HR:Box (res=false):=hid (by rw[HE1.o];simp);clear HE1;go_wp2_with fail;go_ret;exact ⟨by rw[HR.o];rfl,K5.o⟩
 go_wp2_with fail;have hN9:=hNs (by first | trivial | rfl);refine (HPT.o _ K5.o (by first | trivial | rfl)).mono ?_;rintro e w6 ⟨a,cp,rfl,hr,k6⟩;have K6:=hid (K5.o.quiet k6);clear k6 hr hNs;have hN8:(NN:Int)≤4500:=by omega
 have hS8:(SS:Int)≤4500:=by omega
 by_cases hN:NN≤600
 case neg=>
  have hN':¬ (NN:Int)≤600:=by omega
  have HR:Box (res=false):=hid (by rw[HE1.o];simp[hN]);clear HE1 hN;go_wp2_with fail;go_ret;exact ⟨by rw[HR.o];rfl,K6.o⟩
 have hN':(NN:Int)≤600:=by omega
 go_wp2_with fail;refine (HST.o _ K6.o (by first | trivial | rfl)).mono ?_;rintro e w7 ⟨rfl,k7⟩;have K7:=hid (K6.o.quiet k7);clear k7;by_cases hS:SS≤40
 case neg=>
  have hS':decide ((SS:Int)≤40)=false:=decide_eq_false (by omega);have HR:Box (res=false):=hid (by rw[HE1.o];simp[hS]);clear HE1 hS;go_wp2_with fail;go_ret;exact ⟨by rw[HR.o];rfl,K7.o⟩
 have hS':(SS:Int)≤40:=by omega
 have HR:Box (res=true):=hid (by rw[HE1.o];simp[hS,hN]);clear HE1 hS;go_wp2_with fail;go_ret;exact ⟨by rw[HR.o];rfl,K7.o⟩
def zgF(ok:Bool)(y f b i:Int)(w:World)(e:Ending)(w':World):Prop:=if ok then e=.returned .nilIface∧zc [] w w' else Jj y f b i w e w'
theorem zeC(h:PrC w pb po P):Calls Tryz.prog 81 #[pointer (some ⟨pb,po,none⟩)] w (zgF (qJ P) 2 (-1) 0 0 w):=by
 have HC:=hid (zcQ h);have H:=hid fun (w':World)=>ZB 2 w';clear h;generalize qJ P=ok at *;go_enter Tryz.func81,Tryz.ntmps81;go_wp2_with fail;refine HC.o.mono ?_;rintro e w1 ⟨rfl,k1⟩;have K1:=hid k1;clear k1;cases ok with
 | true=>
  go_wp2_with fail;go_ret;exact ⟨rfl,K1.o⟩
 | false=>
  go_wp2_with fail;refine (H.o _).mono ?_;rintro e w2 ⟨p,rfl,h1,h2⟩;go_wp2_with fail;go_ret;exact ⟨p,rfl,h1,K1.o.quiet h2⟩
section
open Go.ChangeShapes Go.WideShapes Go.ChangeAt
section
variable {H:Type}{enc:TypeId × Value→H}{w:World}{spare:Nat→Bool}{held:Bool}{G:TypeId→DataW H→Prop}{N:Nat}
def znz(N:Nat)(x:In8):Prop:=x.args.length≤N
def zmY(N:Nat)(x:Bl8):Prop:=∀ (j:Nat) (y:In8),x.code[j]? = some y→znz N y
def znk(N:Nat)(x:Fu8):Prop:=∀ (j:Nat) (y:Bl8),x.blocks[j]? = some y→zmY N y
def znM(N:Nat)(x:Pr8):Prop:=(∀ (j:Nat) (y:List (Int × Int)),x.recs[j]? = some y→y.length≤N)∧(∀ (j:Nat) (y:List (Int × Int) × Int × Int),x.sigs[j]? = some y→y.1.length≤N)∧(∀ (j:Nat) (y:List Int),x.ifs[j]? = some y→y.length≤N)∧(∀ (j:Nat) (y:Int × Int × List Int),x.ims[j]? = some y→y.2.2.length≤N)∧∀ (j:Nat) (y:Fu8),x.funcs[j]? = some y→znk N y
theorem Qr:Zg enc Tryz.prog w spare held G 3 ji (fun _=>True):=zgW Tryz.underlying3 (by kernel_rfl)
theorem zgY(hG:Zw Tryz.prog G)(hN:∀ elems rest,G 36 (.slice elems rest)→elems.length≤N):Zg enc Tryz.prog w spare held G 36 J6 (fun l=>l.length≤N):=zcg hG hN Tryz.underlying36 (by kernel_rfl) (by decide) (by kernel_rfl) Qr
theorem zjt(hG:Zw Tryz.prog G):Zg enc Tryz.prog w spare held G 52 TyC (fun _=>True):=by
 intro fuel b o cs x hc h hg;have F:=qC hG Tryz.underlying52 hc h hg;obtain ⟨y0,h0,q0⟩:=F 0 _ rfl (of_decide_eq_true (by kernel_rfl)) Qr;obtain ⟨y1,h1,q1⟩:=F 1 _ rfl (of_decide_eq_true (by kernel_rfl)) Qr;exact ⟨(y0,y1),⟨h0,h1⟩,trivial⟩
theorem zc2(hG:Zw Tryz.prog G)(hT:∀ elems rest,G 47 (.slice elems rest)→elems.length≤N):Zg enc Tryz.prog w spare held G 47 (SlC 2 TyC) (fun l=>l.length≤N):=zcg hG hT Tryz.underlying47 (by kernel_rfl) (by decide) (by kernel_rfl) (zjt hG)
theorem zkl(hG:Zw Tryz.prog G)(hN:∀ elems rest,G 36 (.slice elems rest)→elems.length≤N):Zg enc Tryz.prog w spare held G 54 InC (znz N):=by
 intro fuel b o cs x hc h hg;have F:=qC hG Tryz.underlying54 hc h hg;obtain ⟨y0,h0,q0⟩:=F 0 _ rfl (of_decide_eq_true (by kernel_rfl)) Qr;obtain ⟨y1,h1,q1⟩:=F 1 _ rfl (of_decide_eq_true (by kernel_rfl)) Qr;obtain ⟨y2,h2,q2⟩:=F 2 _ rfl (of_decide_eq_true (by kernel_rfl)) Qr;obtain ⟨y3,h3,q3⟩:=F 3 _ rfl (of_decide_eq_true (by kernel_rfl)) Qr;obtain ⟨y4,h4,q4⟩:=F 4 _ rfl (of_decide_eq_true (by kernel_rfl)) Qr;obtain ⟨y5,h5,q5⟩:=F 5 _ rfl (of_decide_eq_true (by kernel_rfl)) (zgY hG hN);exact ⟨⟨y0,y1,y2,y3,y4,y5⟩,⟨h0,h1,h2,h3,h4,h5⟩,q5⟩
theorem ziG(hG:Zw Tryz.prog G)(hN:∀ elems rest,G 36 (.slice elems rest)→elems.length≤N):Zg enc Tryz.prog w spare held G 55 (SlC 6 InC) (fun l=>∀ (j:Nat) (y:In8),l[j]? = some y→znz N y):=qZ hG Tryz.underlying55 (by kernel_rfl) (by decide) (by kernel_rfl) (zkl hG hN)
theorem zla(hG:Zw Tryz.prog G)(hN:∀ elems rest,G 36 (.slice elems rest)→elems.length≤N):Zg enc Tryz.prog w spare held G 57 BlC (zmY N):=by
 intro fuel b o cs x hc h hg;have F:=qC hG Tryz.underlying57 hc h hg;obtain ⟨y0,h0,q0⟩:=F 0 _ rfl (of_decide_eq_true (by kernel_rfl)) (ziG hG hN);obtain ⟨y1,h1,q1⟩:=F 1 _ rfl (of_decide_eq_true (by kernel_rfl)) Qr;obtain ⟨y2,h2,q2⟩:=F 2 _ rfl (of_decide_eq_true (by kernel_rfl)) Qr;obtain ⟨y3,h3,q3⟩:=F 3 _ rfl (of_decide_eq_true (by kernel_rfl)) Qr;obtain ⟨y4,h4,q4⟩:=F 4 _ rfl (of_decide_eq_true (by kernel_rfl)) Qr;exact ⟨⟨y0,y1,y2,y3,y4⟩,⟨h0,h1,h2,h3,h4⟩,q0⟩
theorem ziQ(hG:Zw Tryz.prog G)(hN:∀ elems rest,G 36 (.slice elems rest)→elems.length≤N):Zg enc Tryz.prog w spare held G 48 (SlC 5 BlC) (fun l=>∀ (j:Nat) (y:Bl8),l[j]? = some y→zmY N y):=qZ hG Tryz.underlying48 (by kernel_rfl) (by decide) (by kernel_rfl) (zla hG hN)
theorem zlC(hG:Zw Tryz.prog G)(hN:∀ elems rest,G 36 (.slice elems rest)→elems.length≤N)(hT:∀ elems rest,G 47 (.slice elems rest)→elems.length≤N):Zg enc Tryz.prog w spare held G 50 FuC (znk N):=by
 intro fuel b o cs x hc h hg;have F:=qC hG Tryz.underlying50 hc h hg;obtain ⟨y0,h0,q0⟩:=F 0 _ rfl (of_decide_eq_true (by kernel_rfl)) Qr;obtain ⟨y1,h1,q1⟩:=F 1 _ rfl (of_decide_eq_true (by kernel_rfl)) (zc2 hG hT);obtain ⟨y2,h2,q2⟩:=F 2 _ rfl (of_decide_eq_true (by kernel_rfl)) (ziQ hG hN);exact ⟨⟨y0,y1,y2⟩,⟨h0,h1,h2⟩,q2⟩
theorem zkD(hG:Zw Tryz.prog G)(hN:∀ elems rest,G 36 (.slice elems rest)→elems.length≤N)(hT:∀ elems rest,G 47 (.slice elems rest)→elems.length≤N):Zg enc Tryz.prog w spare held G 43 (SlC 3 FuC) (fun l=>∀ (j:Nat) (y:Fu8),l[j]? = some y→znk N y):=qZ hG Tryz.underlying43 (by kernel_rfl) (by decide) (by kernel_rfl) (zlC hG hN hT)
theorem zn8(hG:Zw Tryz.prog G)(hT:∀ elems rest,G 47 (.slice elems rest)→elems.length≤N):Zg enc Tryz.prog w spare held G 59 SgC (fun x=>x.1.length≤N):=by
 intro fuel b o cs x hc h hg;have F:=qC hG Tryz.underlying59 hc h hg;obtain ⟨y0,h0,q0⟩:=F 0 _ rfl (of_decide_eq_true (by kernel_rfl)) (zc2 hG hT);obtain ⟨y1,h1,_⟩:=F 1 _ rfl (of_decide_eq_true (by kernel_rfl)) (zjt hG);exact ⟨(y0,y1.1,y1.2),⟨h0,h1.c0,h1.c1⟩,q0⟩
theorem zkA(hG:Zw Tryz.prog G)(hN:∀ elems rest,G 36 (.slice elems rest)→elems.length≤N):Zg enc Tryz.prog w spare held G 38 J6 (fun x=>x.length≤N):=by
 intro fuel b o cs x hc h hg;have F:=qC hG Tryz.underlying38 hc h hg;obtain ⟨y0,h0,q0⟩:=F 0 _ rfl (of_decide_eq_true (by kernel_rfl)) (zgY hG hN);exact ⟨y0,h0,q0⟩
theorem zl1(hG:Zw Tryz.prog G)(hN:∀ elems rest,G 36 (.slice elems rest)→elems.length≤N):Zg enc Tryz.prog w spare held G 61 ImC (fun x=>x.2.2.length≤N):=by
 intro fuel b o cs x hc h hg;have F:=qC hG Tryz.underlying61 hc h hg;obtain ⟨y0,h0,_⟩:=F 0 _ rfl (of_decide_eq_true (by kernel_rfl)) Qr;obtain ⟨y1,h1,_⟩:=F 1 _ rfl (of_decide_eq_true (by kernel_rfl)) Qr;obtain ⟨y2,h2,q2⟩:=F 2 _ rfl (of_decide_eq_true (by kernel_rfl)) (zgY hG hN);exact ⟨(y0,y1,y2),⟨h0,h1,h2⟩,q2⟩
theorem zmj(hG:Zw Tryz.prog G)(hN:∀ elems rest,G 36 (.slice elems rest)→elems.length≤N)(hT:∀ elems rest,G 47 (.slice elems rest)→elems.length≤N):Zg enc Tryz.prog w spare held G 45 PrC (znM N):=by
 intro fuel b o cs x hc h hg;have F:=qC hG Tryz.underlying45 hc h hg;obtain ⟨y0,h0,q0⟩:=F 0 _ rfl (of_decide_eq_true (by kernel_rfl)) (qZ (c:=1) hG Tryz.underlying40 (by kernel_rfl) (by decide) (by kernel_rfl) (zc2 hG hT));obtain ⟨y1,h1,q1⟩:=F 1 _ rfl (of_decide_eq_true (by kernel_rfl)) (qZ (c:=3) hG Tryz.underlying41 (by kernel_rfl) (by decide) (by kernel_rfl) (zn8 hG hT));obtain ⟨y2,h2,q2⟩:=F 2 _ rfl (of_decide_eq_true (by kernel_rfl)) (qZ (c:=1) hG Tryz.underlying39 (by kernel_rfl) (by decide) (by kernel_rfl) (zkA hG hN));obtain ⟨y3,h3,q3⟩:=F 3 _ rfl (of_decide_eq_true (by kernel_rfl)) (qZ (c:=3) hG Tryz.underlying42 (by kernel_rfl) (by decide) (by kernel_rfl) (zl1 hG hN));obtain ⟨y4,h4,q4⟩:=F 4 _ rfl (of_decide_eq_true (by kernel_rfl)) (zkD hG hN hT);obtain ⟨y5,h5,_⟩:=F 5 _ rfl (of_decide_eq_true (by kernel_rfl)) Qr;exact ⟨⟨y0,y1,y2,y3,y4,y5⟩,⟨h0,h1,h2,h3,h4,h5⟩,q0,q1,q2,q3,q4⟩
def zfX(N:Nat)(W:World)(v:Value):Prop:=v=.pointer none∨∃ b o P,v=pointer (some ⟨b,o,none⟩)∧PrC W b o P∧znM N P
theorem zlp(hG:Zw Tryz.prog G)(hN:∀ elems rest,G 36 (.slice elems rest)→elems.length≤N)(hT:∀ elems rest,G 47 (.slice elems rest)→elems.length≤N){r:Reach}{b0:Nat}{v:Value}{d:DataW H}{p:List MemPlace}(hval:Value.okWide Tryz.prog w r b0 22 v)
  (h:∃ fuel,DataW.trod enc Tryz.prog w 0 spare held fuel 22 v.cells.toList=some (d,p)) (hg:G 22 d):zfX N w v:=by
 obtain ⟨a,rfl⟩:=okWide_pointer Tryz.underlying22 hval;obtain ⟨fuel,hf⟩:=h;rcases DataW.trod_pointer Tryz.underlying22 hf with ⟨h1,_⟩ | ⟨a',cs',y,n,_,h1,h2,h3,h4⟩
 ·simp[Value.cells] at h1
  exact .inl (by rw[h1])
 ·simp[Value.cells] at h1
  subst h1;obtain ⟨_,g5,g6⟩:=World.cells?_some h3;have hc6:Tryz.prog.cellsOf 45=6:=by kernel_rfl
  obtain ⟨b,o,spot⟩:=a';have g2:=g6 0 (by rw[hc6];omega);rw[List.getElem?_eq_getElem (by rw[g5,hc6];omega)] at g2;have hspot:spot=none:=by simpa [Addr.add] using World.cell?_spot g2
  subst hspot;have hd:d=.ptr y.1:=congrArg Prod.fst h2;rw[hd] at hg
  obtain ⟨P,q1,q2⟩:=zmj hG hN hT n b o cs' y (fun i hi=>by
   have:=g6 i hi;rw[add_plain] at this
   exact this) h4 (hG.ptr Tryz.underlying22 hg)
  exact .inr ⟨b,o,P,rfl,q1,q2⟩
end
theorem zaa{H:Type}{P:Program}{e:TypeId}{d:DataW H}:∀ {l:List (DataW H)},d∈l→∀ n,n∈d.weights P e→n∈DataW.weightsAll P e l
 | x :: r,h,n,hn=>by
  rw[DataW.weightsAll];rcases List.mem_cons.1 h with rfl | h
  ·exact List.mem_append_left _ hn
  ·exact List.mem_append_right _ (zaa h n hn)
theorem zcE{H:Type}{P:Program}:Zw P (fun (t:TypeId) (d:DataW H)=>∀ n,n∈d.weights P t→n≤reachBytes):=by
 constructor
 ·intro t e elems rest d ht h hd n hn
  refine h n ?_;rw[DataW.weights];simp only[ht];exact List.mem_cons_of_mem _ (List.mem_append_left _ (zaa hd n hn))
 ·intro t fs parts i f d ht h hf hd n hn
  refine h n ?_;rw[DataW.weights];simp only[ht];refine DataW.weights_mem_each (j:=i) (t:=f.type) (d:=d) ?_ hd n hn;rw[List.getElem?_map,Array.getElem?_toList,hf];rfl
 ·intro t e d ht h n hn
  refine h n ?_;rw[DataW.weights];simp only[ht];exact hn
theorem zf6{H:Type}{enc:TypeId × Value→H}{spare:Nat→Bool}{held:Bool}{r:Reach}{b0:Nat}{d:DataW H}{p:List MemPlace}(hval:Value.okWide Tryz.prog w r b0 22 v)
  (h:∃ fuel,DataW.trod enc Tryz.prog w 0 spare held fuel 22 v.cells.toList=some (d,p)) (hb:∀ n,n∈d.weights Tryz.prog 22→n≤reachBytes):zfX 17592186044416 w v:=
 zlp (G:=fun (t:TypeId) (d:DataW H)=>∀ n,n∈d.weights Tryz.prog t→n≤reachBytes) (N:=17592186044416) zcE (fun elems rest hh=>by
  have h1:=hh ((elems.length+rest.length) * Tryz.prog.bytesOf 3) (by
   rw[DataW.weights];simp only[Tryz.underlying36]
   exact List.mem_cons_self ..)
  have h8:Tryz.prog.bytesOf 3=8:=by kernel_rfl
  rw[h8] at h1;have hr:reachBytes=140737488351232:=by decide
  rw[hr] at h1
  omega) (fun elems rest hh=>by
  have h1:=hh ((elems.length+rest.length) * Tryz.prog.bytesOf 52) (by
   rw[DataW.weights];simp only[Tryz.underlying47]
   exact List.mem_cons_self ..)
  have h8:Tryz.prog.bytesOf 52=16:=by kernel_rfl
  rw[h8] at h1;have hr:reachBytes=140737488351232:=by decide
  rw[hr] at h1
  omega) hval h hb
end
def zq(x:Fu8)(r:Int):Int × Int:=if inB r x.regs.length then x.regs.getD r.toNat (0,0) else (-1,0)
theorem Zd{r:Int}(h:inB r x.regs.length=true):zq x r=x.regs.getD r.toNat (0,0):=by unfold zq;rw[h];rfl
theorem zhz{r:Int}(h:inB r x.regs.length=false):zq x r=(-1,0):=by unfold zq;rw[h];rfl
theorem znh{b:Nat}{x y:Value}{T:TypeId}(h:w.heap[b]? = some (.cells #[x,y] T (0,0)))(u0 u1:Value):
  ((w.setCell ⟨b,0,none⟩ u0).setCell ⟨b,1,none⟩ u1).heap[b]? = some (.cells #[u0,u1] T (0,0)):=
 heap_setCell_same _ b 1 _ _ u1 (heap_setCell_same w b 0 _ _ u0 h)
theorem zcf(w:World)(b:Nat)(u0 u1:Value):zc [b] w ((w.setCell ⟨b,0,none⟩ u0).setCell ⟨b,1,none⟩ u1):=
 (zc.setCell [b] _ _ _ (List.mem_singleton.2 rfl)).step (zc.setCell [b] _ _ _ (List.mem_singleton.2 rfl))
theorem zz{fb fo:Nat}(h:FuC w fb fo x)(r:Int):Calls Tryz.prog 242 #[pointer (some ⟨fb,fo,none⟩),int i64 r] w fun e w'=>e=.returned (tyV (zq x r))∧zc [] w w':=by
 obtain ⟨a,cp,c1,hr,_⟩:=h.c1;have ka:=zc.alloc [] w (.cells #[int i64 0,int i64 0] 52);replace c1:=za ka c1;have hn:=zh w (.cells #[int i64 0,int i64 0] 52);have HW:=hid fun (w:World)=>z6 r x.regs.length w;have KA:=hid ka;have HR:=hid hr;have HN:=hid hn;have z0:=zi hn 0;have z1:=zi hn 1;have q0:=zd hn 0;have q1:=zd hn 1;cases hin:inB r x.regs.length with
 | true=>
  have HT:=hid (Zd hin);rw[hin] at HW;obtain ⟨h0,h1⟩:=zt.1 hin;obtain ⟨b,off,rfl,hc⟩:=HR.o.at (zg (l:=x.regs) (k:=r.toNat) (d:=(0,0)) (by omega));obtain ⟨k,rfl⟩:∃ k:Nat,r=(k:Int):=⟨r.toNat,by omega⟩;have ek:((k:Int)).toNat=k:=by omega
  rw[ek] at hc HT;have d0:=za ka hc.c0.1;have d1:=za ka hc.c1.1;generalize x.regs.getD k (0,0)=t at *;generalize zq x (k:Int)=T at *;generalize x.regs.length=n at *;clear h hr ka hn hc hin ek;go_enter Tryz.func242,Tryz.ntmps242;go_wp2_with fail;refine (HW.o _).mono ?_;rintro e w1 ⟨rfl,hw1⟩;rw[hw1];clear hw1;go_wp2_with fail;exact bodyPost_ret (v:=tyV t) (by simp[results,Tryz.results242,go_sem]) rfl ⟨by rw[HT.o],zc.alloc _ _ _⟩
 | false=>
  have HT:=hid (zhz hin);rw[hin] at HW;generalize zq x r=T at *;generalize x.regs.length=n at *;clear h hr ka hn hin;go_enter Tryz.func242,Tryz.ntmps242;go_wp2_with fail;refine (HW.o _).mono ?_;rintro e w1 ⟨rfl,hw1⟩;rw[hw1];clear hw1;go_wp2_with fail;exact bodyPost_ret (v:=tyV (-1,0)) (by simp[results,Tryz.results242,go_sem]) rfl ⟨by rw[HT.o],zc.alloc _ _ _⟩
def qw(o:Option (List (Int × Int) × Int × Int))(w0 w:World)(e:Ending)(w':World):Prop:=
 zc [] w w'∧match o with
  | some s=>∃ v,e=.returned (.tuple #[v,.bool true])∧SgV w0 v s
  | none=>e=.returned (.tuple #[agg #[.slice none 0 0,int i64 0,int i64 0],.bool false])
def Qp(P:Pr8)(n:Int):Option (List (Int × Int) × Int × Int):=if inB n P.sigs.length then some (P.sigs.getD n.toNat ([],0,0)) else none
theorem ZX{n:Int}(h:inB n P.sigs.length=true):Qp P n=some (P.sigs.getD n.toNat ([],0,0)):=by unfold Qp;rw[h];rfl
theorem zhC{n:Int}(h:inB n P.sigs.length=false):Qp P n=none:=by unfold Qp;rw[h];rfl
theorem Jk{w0:World}(h:PrC w0 pb po P)(k0:zc [] w0 w)(r:Int):Calls Tryz.prog 196 #[pointer (some ⟨pb,po,none⟩),int i64 r] w (qw (Qp P r) w0 w):=by
 obtain ⟨a,cp,c1,hr,_⟩:=h.c1;have ka:=zc.alloc [] w (.cells #[.slice none 0 0,int i64 0,int i64 0] 59);replace c1:=za (k0.quiet ka) c1;have hn:=zh w (.cells #[.slice none 0 0,int i64 0,int i64 0] 59);have HW:=hid fun (w:World)=>z6 r P.sigs.length w;have KA:=hid ka;have HR:=hid hr;have HN:=hid hn;have z0:=zi hn 0;have z1:=zi hn 1;have z2:=zi hn 2;have q0:=zd hn 0;have q1:=zd hn 1;have q2:=zd hn 2;cases hin:inB r P.sigs.length with
 | true=>
  rw[ZX hin];rw[hin] at HW;obtain ⟨h0,h1⟩:=zt.1 hin;obtain ⟨b,off,rfl,hc⟩:=HR.o.at (zg (l:=P.sigs) (k:=r.toNat) (d:=([],0,0)) (by omega));obtain ⟨k,rfl⟩:∃ k:Nat,r=(k:Int):=⟨r.toNat,by omega⟩;have ek:((k:Int)).toNat=k:=by omega
  rw[ek] at hc ⊢;obtain ⟨ga,gp,g0,q5⟩:=hc.c0.val;have HV:Box (SgV w0 (agg #[.slice ga (P.sigs.getD k ([],0,0)).1.length gp,int i64 (P.sigs.getD k ([],0,0)).2.1,int i64 (P.sigs.getD k ([],0,0)).2.2]) (P.sigs.getD k ([],0,0))):=hid ⟨ga,gp,rfl,q5,hc.c1.2,hc.c2.2⟩;have d0:=za (k0.quiet ka) g0;have d1:=za (k0.quiet ka) hc.c1.1;have d2:=za (k0.quiet ka) hc.c2.1;generalize P.sigs.getD k ([],0,0)=t at *;generalize P.sigs.length=n at *;clear h hr ka k0 hn hc hin ek g0 q5;go_enter Tryz.func196,Tryz.ntmps196;go_wp2_with fail;refine (HW.o _).mono ?_;rintro e w1 ⟨rfl,hw1⟩;rw[hw1];clear hw1;go_wp2_with fail;exact bodyPost_ret (v:=.tuple #[agg #[.slice ga t.1.length gp,int i64 t.2.1,int i64 t.2.2],.bool true]) (by simp[results,Tryz.results196,go_sem]) rfl ⟨zc.alloc _ _ _,_,rfl,HV.o⟩
 | false=>
  rw[zhC hin];rw[hin] at HW;generalize P.sigs.length=n at *;clear h hr ka k0 hn hin;go_enter Tryz.func196,Tryz.ntmps196;go_wp2_with fail;refine (HW.o _).mono ?_;rintro e w1 ⟨rfl,hw1⟩;rw[hw1];clear hw1;go_wp2_with fail;exact bodyPost_ret (v:=.tuple #[agg #[.slice none 0 0,int i64 0,int i64 0],.bool false]) (by simp[results,Tryz.results196,go_sem]) rfl ⟨zc.alloc _ _ _,rfl⟩
end Go.Proofs.YthflgjkmbakedaaGreatDoor
