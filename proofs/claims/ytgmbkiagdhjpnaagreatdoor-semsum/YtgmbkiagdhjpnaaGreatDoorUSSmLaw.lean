/-
  SemSum, the walk.
-/
import Derived.Test.YtgmbkiagdhjpnaaGreatDoorUSGrow2
import Derived.Test.YtgmbkiagdhjpnaaGreatDoorU26
namespace Go.Proofs.YtgmbkiagdhjpnaaGreatDoor
open Go.RowKit
theorem wf_prS:∀ L:List Int,L.length≤14→wfO (prS L)=none
 | [],_=>by kernel_rfl
 | [x0],_=>by kernel_rfl
 | [x0,x1],_=>by kernel_rfl
 | [x0,x1,x2],_=>by kernel_rfl
 | [x0,x1,x2,x3],_=>by kernel_rfl
 | [x0,x1,x2,x3,x4],_=>by kernel_rfl
 | [x0,x1,x2,x3,x4,x5],_=>by kernel_rfl
 | [x0,x1,x2,x3,x4,x5,x6],_=>by kernel_rfl
 | [x0,x1,x2,x3,x4,x5,x6,x7],_=>by kernel_rfl
 | [x0,x1,x2,x3,x4,x5,x6,x7,x8],_=>by kernel_rfl
 | [x0,x1,x2,x3,x4,x5,x6,x7,x8,x9],_=>by kernel_rfl
 | [x0,x1,x2,x3,x4,x5,x6,x7,x8,x9,x10],_=>by kernel_rfl
 | [x0,x1,x2,x3,x4,x5,x6,x7,x8,x9,x10,x11],_=>by kernel_rfl
 | [x0,x1,x2,x3,x4,x5,x6,x7,x8,x9,x10,x11,x12],_=>by kernel_rfl
 | [x0,x1,x2,x3,x4,x5,x6,x7,x8,x9,x10,x11,x12,x13],_=>by kernel_rfl
 | _ :: _ :: _ :: _ :: _ :: _ :: _ :: _ :: _ :: _ :: _ :: _ :: _ :: _ :: _ :: _,h=>absurd h (by simp only[List.length_cons];omega)
theorem pt_prS:∀ L:List Int,L.length≤14→(pts (prS L)).length≤150
 | [],_=>Nat.le_of_ble_eq_true (by kernel_rfl)
 | [x0],_=>Nat.le_of_ble_eq_true (by kernel_rfl)
 | [x0,x1],_=>Nat.le_of_ble_eq_true (by kernel_rfl)
 | [x0,x1,x2],_=>Nat.le_of_ble_eq_true (by kernel_rfl)
 | [x0,x1,x2,x3],_=>Nat.le_of_ble_eq_true (by kernel_rfl)
 | [x0,x1,x2,x3,x4],_=>Nat.le_of_ble_eq_true (by kernel_rfl)
 | [x0,x1,x2,x3,x4,x5],_=>Nat.le_of_ble_eq_true (by kernel_rfl)
 | [x0,x1,x2,x3,x4,x5,x6],_=>Nat.le_of_ble_eq_true (by kernel_rfl)
 | [x0,x1,x2,x3,x4,x5,x6,x7],_=>Nat.le_of_ble_eq_true (by kernel_rfl)
 | [x0,x1,x2,x3,x4,x5,x6,x7,x8],_=>Nat.le_of_ble_eq_true (by kernel_rfl)
 | [x0,x1,x2,x3,x4,x5,x6,x7,x8,x9],_=>Nat.le_of_ble_eq_true (by kernel_rfl)
 | [x0,x1,x2,x3,x4,x5,x6,x7,x8,x9,x10],_=>Nat.le_of_ble_eq_true (by kernel_rfl)
 | [x0,x1,x2,x3,x4,x5,x6,x7,x8,x9,x10,x11],_=>Nat.le_of_ble_eq_true (by kernel_rfl)
 | [x0,x1,x2,x3,x4,x5,x6,x7,x8,x9,x10,x11,x12],_=>Nat.le_of_ble_eq_true (by kernel_rfl)
 | [x0,x1,x2,x3,x4,x5,x6,x7,x8,x9,x10,x11,x12,x13],_=>Nat.le_of_ble_eq_true (by kernel_rfl)
 | _ :: _ :: _ :: _ :: _ :: _ :: _ :: _ :: _ :: _ :: _ :: _ :: _ :: _ :: _ :: _,h=>absurd h (by simp only[List.length_cons];omega)
theorem sm_prS(L:List Int)(hn:L.length≤14):Sm8 (prS L):=⟨by show 1≤12;omega,fun f hf=>(by
 have hf:f<1:=hf
 obtain rfl:f=0:=by omega
 show 1≤14
 omega),pt_prS L hn⟩
theorem prS_G(L:List Int):prS L=prG 2 (⟨1,0,0,0,7,[]⟩ :: zaX L):=rfl
theorem inB8{o d a b n:Int}(h:(-100≤o∧o≤100)∧(-100≤d∧d≤100)∧(-100≤a∧a≤100)∧(-100≤b∧b≤100))(hn:b64 n):InB ⟨o,d,a,b,n,[]⟩:=⟨⟨x64 h.1,x64 h.2.1,x64 h.2.2.1,x64 h.2.2.2,hn⟩,rfl⟩
theorem sumC_ok{L:List Int}(hL:∀ z,z∈L→b64 z):∀ x,x∈(⟨1,0,0,0,7,[]⟩ :: zaX L:List In8)→InB x:=by
 intro x hx
 unfold zaX at hx
 simp only[List.mem_cons,List.mem_flatMap,List.not_mem_nil,or_false] at hx
 rcases hx with rfl | ⟨z,hz,rfl | rfl⟩
 ·exact inB8 (by decide) (by unfold b64;decide)
 ·exact inB8 (by decide) (hL z hz)
 ·exact inB8 (by decide) (by unfold b64;decide)
theorem sumC_snoc(L:List Int)(z:Int):zaX (L ++ [z])=zaX L ++ [⟨1,1,0,0,z,[]⟩,⟨2,0,1,0,0,[]⟩]:=by
 unfold zaX
 rw[List.flatMap_append]
 rfl
theorem sumW_snoc(L:List Int)(z s:Int):zki (L ++ [z]) s=wrap64 (zki L s+z):=by
 unfold zki
 rw[List.foldl_append]
 rfl
set_option maxRecDepth 20000 in
set_option maxHeartbeats 8000000 in
theorem semSum_le(a:Option Addr)(cap:Nat)(l:List Int)(w:World)(hg:zbq w)(hT:jb w)(hx:zq w 1 zI a l)(hl:l.length≤14):Calls Tryz.prog 13 #[.slice a l.length cap] w fun e w'=>e=.returned (.bool true)∧za [] w w':=by
 have HG:=hid hg
 have HT:=hid hT
 obtain ⟨n,hn⟩:∃ n,n=l.length:=⟨_,rfl⟩
 rw[← hn] at hl ⊢
 have hn1:¬ (14:Int)<(n:Int):=by omega
 obtain ⟨L,hL⟩:∃ L,L=l:=⟨_,rfl⟩
 have HX:Box (zq w 1 zI a L):=hid (by rw[hL];exact hx)
 have HLN:Box (L.length=n):=hid (by rw[hL,hn])
 have HBL:Box (∀ z,z∈L→b64 z):=hid (by
  intro z hz
  rw[hL] at hz
  obtain ⟨j,hj⟩:=List.getElem?_of_mem hz
  obtain ⟨_,_,_,h⟩:=hx.at hj
  exact h.2)
 clear hL hn
 clear hg hT hx
 go_enter Tryz.func13,Tryz.ntmps13
 go_wp2_with fail
 refine (zbs w HG.o HT.o).mono ?_
 rintro e w1 ⟨rfl,k1⟩
 have K1:=hid k1
 clear k1
 go_wp2_with fail
 refine (zjv w1).mono ?_
 rintro e w2 ⟨rfl,o2,k2⟩
 obtain ⟨q,hq⟩:∃ q,q=w1.heap.size:=⟨_,rfl⟩
 rw[← hq] at o2 ⊢
 have KW:=hid (K1.o.quiet k2)
 have G0:=hid (GrI.start (B:=w.heap.size) o2 (by rw[hq];exact K1.o.size))
 have p5:=zc o2.h5 4
 have l5:=zt o2.h5
 clear o2 k2 hq K1
 go_upto_region 9 with fail
 have p4:=zc G0.o.h4 1
 have y4:=zg G0.o.h4 1
 have l4:=zt G0.o.h4
 have hB:w.heap.size≤w2.heap.size:=KW.o.size
 have OW:Box ((w2.alloc (.cells #[.int .i64 0,.int .i64 0] 60)).ownsRow w.heap.size 60 2 (.slice (some ⟨q+1,0,none⟩) 1 1) 1 [.int .i64 0,.int .i64 0]):=hid (zh G0.o.rg (za.alloc [] _ _) (fun _ _=>by simp))
 go_wp2_with (at_builtin;go_must (refine wpList_append_lies _ rfl _ _ _ rfl w.heap.size 60 Tryz.t60 (.agg #[.int .i64 0,.int .i64 0]) 2 16 gunder_ty ginfo_ty gzero_ty gsize_ty gbytes_ty rfl (by decide) (.slice (some ⟨q+1,0,none⟩) 1 1) 1 [.int .i64 0,.int .i64 0] rfl OW.o ⟨w2.heap.size,0,none⟩ 1 1 [.int .i64 0,.int .i64 0] rfl rfl (World.news_of_block (cs:=#[.int .i64 0,.int .i64 0]) (t:=60) (fr:=(0,0)) (ze w2 _)) (fun u hu=>by simp at hu;rw[hu];rfl) (by omega) (by unfold maxLen;omega) (by omega) (by simp;omega) (w2.heap.size+1) (by simp) ?_;intro g5 cap5 w5 hown5 hgrow5 hat5 hlt5;have GR:=hid (G0.o.reg (za.alloc [] w2 (.cells #[.int .i64 0,.int .i64 0] 60)) hown5 ⟨hgrow5.os,hgrow5.tape,hgrow5.output,hgrow5.size,hgrow5.block⟩);have q4:=zc GR.o.1 1;have y9:=zg GR.o.1 1;clear hown5 hgrow5 hat5 hlt5))
 have G1:=hid GR.o.2.1
 have K3:=hid (GR.o.2.2 w rfl KW.o)
 clear GR G0 KW q4 y9 p4 y4 l4 hB OW p5 l5
 generalize w5.setCell ⟨q+4,1,none⟩ (.slice (some ⟨g5,0,none⟩) 2 cap5)=w6 at *
 generalize (Value.slice (some ⟨g5,0,none⟩) 2 cap5)=rv at *
 go_wp2_with fail
 go_loopw [6,7] (fun sv iv wr=>∃ (k:Nat) (cv:Value) (C:List In8),k≤n∧iv=.int .i64 (k:Int)∧sv=.int .i64 (zki (L.take k) 7)∧C.length≤40∧Box (C=⟨1,0,0,0,7,[]⟩ :: zaX (L.take k))∧Box (GrI w.heap.size wr q rv cv 2 C)∧Box (za [] w wr)) (fun _ iv _=>n - (intOf iv).toNat)
 case atStart=>exact ⟨0,_,[in1],by omega,rfl,by rw[List.take_zero];rfl,by decide,hid (by rw[List.take_zero];rfl),G1,K3⟩
 case round=>
  obtain ⟨k,cv,C,hk,rfl,rfl,hC,HCL,HR,HK⟩:=hrel
  clear G1 K3
  by_cases hlt:k<n
  ·have hlt':(k:Int)<(n:Int):=by omega
   have hkL:k<L.length:=by rw[HLN.o];exact hlt
   have hz:=List.getElem?_eq_getElem hkL
   obtain ⟨ab,ao,ha,hcz⟩:=HX.o.at hz
   subst ha
   have HC:Box (w.cell? ⟨ab,ao+k * 1,none⟩=some (.int .i64 L[k])):=hid hcz.1
   have HTK:Box (L.take (k+1)=L.take k ++ [L[k]]):=hid (List.take_succ_eq_append_getElem hkL)
   generalize L[k]=z at *
   rw[Nat.mul_one] at HC
   have HS:Box (zki (L.take (k+1)) 7=wrap64 (zki (L.take k) 7+z)):=hid (by rw[HTK.o,sumW_snoc])
   generalize zki (L.take k) 7=s at *
   clear hz hcz hkL
   go_upto_region 13 with fail
   have p7:=zb HK.o HC.o
   have p3:=zc HR.o.h3 0
   have y3:=zg HR.o.h3 0
   have l3:=zt HR.o.h3
   have p4:=zc HR.o.h4 2
   have l4:=zt HR.o.h4
   have hB:w.heap.size≤wr.heap.size:=by have:=HR.o.new;omega
   have OW:Box ((wr.alloc (.cells #[.int .i64 1,.int .i64 1,.int .i64 0,.int .i64 0,.int .i64 z,.slice none 0 0,.int .i64 2,.int .i64 0,.int .i64 1,.int .i64 0,.int .i64 0,.slice none 0 0] 65)).ownsRow w.heap.size 65 6 cv C.length (insCs C)):=hid (zh HR.o.own (za.alloc [] _ _) (fun _ _=>by simp))
   go_region_law (go_loud (refine step_append_lies _ (by rfl) _ _ _ (by rfl) w.heap.size 65 Tryz.t65 (.agg #[.int .i64 0,.int .i64 0,.int .i64 0,.int .i64 0,.int .i64 0,.slice none 0 0]) 6 64 gunder_ins ginfo_in gzero_in gsize_in gbytes_in rfl (by decide) cv C.length (insCs C) (by rfl) (gdrew OW.o) ⟨wr.heap.size,0,none⟩ 2 2 (insCs [⟨1,1,0,0,z,[]⟩,⟨2,0,1,0,0,[]⟩]) (by rfl) (by rfl) (World.news_of_block (cs:=#[.int .i64 1,.int .i64 1,.int .i64 0,.int .i64 0,.int .i64 z,.slice none 0 0,.int .i64 2,.int .i64 0,.int .i64 1,.int .i64 0,.int .i64 0,.slice none 0 0]) (t:=65) (fr:=(0,0)) (ze wr _)) (insC_one _) (by omega) (by unfold maxLen;omega) (by omega) (by simp;omega) (wr.heap.size+1) (by simp) ?_;intro g5 cap5 w5 hown5 hgrow5 hat5 hlt5;have GA:=hid (HR.o.app (M:=[⟨1,1,0,0,z,[]⟩,⟨2,0,1,0,0,[]⟩]) (za.alloc [] wr (.cells #[.int .i64 1,.int .i64 1,.int .i64 0,.int .i64 0,.int .i64 z,.slice none 0 0,.int .i64 2,.int .i64 0,.int .i64 1,.int .i64 0,.int .i64 0,.slice none 0 0] 65)) hown5 ⟨hgrow5.os,hgrow5.tape,hgrow5.output,hgrow5.size,hgrow5.block⟩);have q7:=zb (HR.o.mid (za.alloc [] wr _) ⟨hgrow5.os,hgrow5.tape,hgrow5.output,hgrow5.size,hgrow5.block⟩ rfl HK.o) HC.o;have q3:=zc GA.o.h3 0;have y9:=zg GA.o.h3 0;have l9:=zt GA.o.h3;have q4:=zc GA.o.h4 2;clear hown5 hgrow5 hat5 hlt5))
   all_goals
    have GF:Box (GrI w.heap.size (w5.setCell ⟨q+3,0,none⟩ (.slice (some ⟨g5,0,none⟩) (C.length+2) cap5)) q rv (.slice (some ⟨g5,0,none⟩) (C.length+2) cap5) 2 (C ++ [⟨1,1,0,0,z,[]⟩,⟨2,0,1,0,0,[]⟩])):=hid GA.o.fin
    have KF:Box (za [] w (w5.setCell ⟨q+3,0,none⟩ (.slice (some ⟨g5,0,none⟩) (C.length+2) cap5))):=hid (GA.o.keep w rfl HK.o)
    clear p3 y3 l3 p4 l4 hB OW GA q3 y9 l9 q4 q7 p7
    generalize w5.setCell ⟨q+3,0,none⟩ (.slice (some ⟨g5,0,none⟩) (C.length+2) cap5)=w9 at *
   all_goals
    have x7:=zb KF.o HC.o
    clear HR HK
    go_wp2_with fail
    go_roundw
    case rel=>exact ⟨k+1,_,_,by omega,by go_num,by rw[HS.o],by rw[List.length_append,HCL.o,List.length_cons,Qw,List.length_take];simp;omega,hid (by rw[HCL.o,HTK.o,sumC_snoc];rfl),GF,KF⟩
    case measure=>simp[intOf];omega
  ·obtain rfl:n=k:=by omega
   have HLT:Box (L.take n=L):=hid (List.take_of_length_le (by rw[HLN.o];exact Nat.le_refl _))
   have PC:=hid (HR.o.prc (by rw[HCL.o,HLT.o];exact sumC_ok HBL.o) (by omega) (by omega))
   rw[HCL.o,HLT.o, ← prS_G] at PC
   rw[HLT.o]
   clear HCL HR hC C HLT
   have hL14:L.length≤14:=by rw[HLN.o];omega
   have W:=hid (zfC (wf_prS L hL14))
   have SM:=hid (sm_prS L hL14)
   have RN:=hid (zcs (a:=none) (cp:=0) (l:=[]) PC.o (HG.o.quiet HK.o) (HT.o.kept HK.o (by simp)) (wf_prS L hL14) (.inl rfl) (by simp))
   have I0:=hid (znb W.o [])
   obtain ⟨mE,h1E,h2E⟩:=zlX L hL14
   have HR:=hid h1E
   have HE2:=hid h2E
   generalize ma0 (prS L) []=m0 at *
   generalize prS L=P at *
   generalize zki L 7=s at *
   clear h1E h2E PC HX HBL HLN
   go_wp2_with fail
   refine RN.o.mono ?_
   rintro e w6 ⟨mp,F6,rfl,m6,k6,n6⟩
   have M6:=hid m6
   have K6:=hid (HK.o.quiet k6)
   have N6:Box (∀ x,x∈F6→w.heap.size≤x):=hid fun x hx=>Nat.le_trans HK.o.size (n6 x hx)
   clear m6 k6 n6 RN HK
   go_wp2_with fail
   go_loopw [9] (fun iv wr=>∃ (k:Nat) (m:Ma) (F:List Nat),k≤40∧iv=.int .i64 (k:Int)∧Box (Q4 wr mp P m F)∧Box (Inv P m)∧Box (za [] w wr)∧Box (∀ x,x∈F→w.heap.size≤x)∧Box (Zi P (40 - k) m=(4,mE))) (fun iv _=>40 - (intOf iv).toNat)
   case atStart=>exact ⟨0,m0,F6,by omega,rfl,M6,I0,K6,N6,HR⟩
   case round=>
    obtain ⟨k,m,F,hk2,rfl,HM,HI,HK,HF,HE⟩:=hrel
    clear M6 I0 K6 N6 HR
    by_cases hlt9:k<40
    ·have hlt8:(k:Int)<40:=by omega
     go_wp2_with fail
     refine (Zu W.o HI.o SM.o HM.o).mono ?_
     rintro e w7 ⟨F2,rfl,m7,k7,n7⟩
     have M7:=hid m7
     have K7:=hid (HK.o.step9 k7 HF.o)
     have N7:Box (∀ x,x∈F2→w.heap.size≤x):=hid (n7.up9 HK.o HF.o)
     have I7:=hid (HI.o.step W.o)
     have E7:Box ((if (zS P m).1=0 then Zi P (40 - (k+1)) (zS P m).2 else zS P m)=(4,mE)):=hid (by
      have:=HE.o
      rw[show 40 - k=(40 - (k+1))+1 by omega,Zi] at this
      exact this)
     clear m7 k7 n7 HM HI HK HF HE
     generalize zS P m=r at *
     obtain ⟨y,m'⟩:=r
     have I7:Box (Inv P m'):=I7
     have M7:Box (Q4 w7 mp P m' F2):=M7
     by_cases hy:y=0
     ·subst hy
      have E8:Box (Zi P (40 - (k+1)) m'=(4,mE)):=hid E7.o
      clear E7
      go_wp2_with fail
      go_roundw
      case rel=>exact ⟨k+1,m',F2,by omega,by go_num,M7,I7,K7,N7,E8⟩
      case measure=>simp[intOf];omega
     ·have E8:(y,m')=(4,mE):=by
       have:=E7.o
       rwa [if_neg hy] at this
      obtain ⟨rfl,rfl⟩:y=4∧m'=mE:=by simpa using E8
      have f1:=fun (x y z:Value)=>zno x y z
      have f2:=fun (x y z:Value)=>znu x y z
      clear E7 E8 hy
      go_wp2_with fail
      refine (zbx M7.o).mono ?_
      rintro e wa ⟨rfl,ka⟩
      have MA:=hid (M7.o.quiet ka)
      have KA:=hid (K7.o.quiet ka)
      clear ka M7 K7
      rw[HE2.o]
      unfold vlV
      go_wp2_with fail
      refine (zbx MA.o).mono ?_
      rintro e wb ⟨rfl,kb⟩
      have KB:=hid (KA.o.quiet kb)
      clear kb MA KA
      rw[HE2.o]
      unfold vlV
      go_wp2_with fail
      go_ret
      exact ⟨rfl,KB.o⟩
    ·exfalso
     obtain rfl:k=40:=by omega
     have E8:=HE.o
     rw[Nat.sub_self] at E8
     have:(0:Int)=4:=congrArg Prod.fst E8
     exact absurd this (by decide)
set_option maxRecDepth 20000 in
set_option maxHeartbeats 8000000 in
theorem semSum_gt(a:Option Addr)(cap:Nat)(l:List Int)(w:World)(hg:zbq w)(hT:jb w)(hx:zq w 1 zI a l)(hc:l.length≤cap)(hl:14<l.length):Calls Tryz.prog 13 #[.slice a l.length cap] w fun e w'=>e=.returned (.bool true)∧za [] w w':=by
 have HG:=hid hg
 have HT:=hid hT
 obtain ⟨n,hn⟩:∃ n,n=l.length:=⟨_,rfl⟩
 rw[← hn] at hc hl ⊢
 have hn1:(14:Int)<(n:Int):=by omega
 have hn2:(14:Int)≤(cap:Int):=by omega
 obtain ⟨L,hL⟩:∃ L,L=l.take 14:=⟨_,rfl⟩
 have HX:Box (zq w 1 zI a L):=hid (by
  rcases hx with h | ⟨b,off,h1,h2⟩
  ·rw[h] at hn
   simp at hn
   omega
  ·refine .inr ⟨b,off,h1,fun j y hy=>h2 j y ?_⟩
   rw[hL,List.getElem?_take] at hy
   split at hy
   ·exact hy
   ·cases hy)
 have HLN:Box (L.length=14):=hid (by rw[hL,List.length_take];omega)
 have HBL:Box (∀ z,z∈L→b64 z):=hid (by
  intro z hz
  obtain ⟨j,hj⟩:=List.getElem?_of_mem hz
  obtain ⟨_,_,_,h⟩:=HX.o.at hj
  exact h.2)
 clear hL hn
 clear hg hT hx
 go_enter Tryz.func13,Tryz.ntmps13
 go_wp2_with fail
 refine (zbs w HG.o HT.o).mono ?_
 rintro e w1 ⟨rfl,k1⟩
 have K1:=hid k1
 clear k1
 go_wp2_with fail
 refine (zjv w1).mono ?_
 rintro e w2 ⟨rfl,o2,k2⟩
 obtain ⟨q,hq⟩:∃ q,q=w1.heap.size:=⟨_,rfl⟩
 rw[← hq] at o2 ⊢
 have KW:=hid (K1.o.quiet k2)
 have G0:=hid (GrI.start (B:=w.heap.size) o2 (by rw[hq];exact K1.o.size))
 have p5:=zc o2.h5 4
 have l5:=zt o2.h5
 clear o2 k2 hq K1
 go_upto_region 9 with fail
 have p4:=zc G0.o.h4 1
 have y4:=zg G0.o.h4 1
 have l4:=zt G0.o.h4
 have hB:w.heap.size≤w2.heap.size:=KW.o.size
 have OW:Box ((w2.alloc (.cells #[.int .i64 0,.int .i64 0] 60)).ownsRow w.heap.size 60 2 (.slice (some ⟨q+1,0,none⟩) 1 1) 1 [.int .i64 0,.int .i64 0]):=hid (zh G0.o.rg (za.alloc [] _ _) (fun _ _=>by simp))
 go_wp2_with (at_builtin;go_must (refine wpList_append_lies _ rfl _ _ _ rfl w.heap.size 60 Tryz.t60 (.agg #[.int .i64 0,.int .i64 0]) 2 16 gunder_ty ginfo_ty gzero_ty gsize_ty gbytes_ty rfl (by decide) (.slice (some ⟨q+1,0,none⟩) 1 1) 1 [.int .i64 0,.int .i64 0] rfl OW.o ⟨w2.heap.size,0,none⟩ 1 1 [.int .i64 0,.int .i64 0] rfl rfl (World.news_of_block (cs:=#[.int .i64 0,.int .i64 0]) (t:=60) (fr:=(0,0)) (ze w2 _)) (fun u hu=>by simp at hu;rw[hu];rfl) (by omega) (by unfold maxLen;omega) (by omega) (by simp;omega) (w2.heap.size+1) (by simp) ?_;intro g5 cap5 w5 hown5 hgrow5 hat5 hlt5;have GR:=hid (G0.o.reg (za.alloc [] w2 (.cells #[.int .i64 0,.int .i64 0] 60)) hown5 ⟨hgrow5.os,hgrow5.tape,hgrow5.output,hgrow5.size,hgrow5.block⟩);have q4:=zc GR.o.1 1;have y9:=zg GR.o.1 1;clear hown5 hgrow5 hat5 hlt5))
 have G1:=hid GR.o.2.1
 have K3:=hid (GR.o.2.2 w rfl KW.o)
 clear GR G0 KW q4 y9 p4 y4 l4 hB OW p5 l5
 generalize w5.setCell ⟨q+4,1,none⟩ (.slice (some ⟨g5,0,none⟩) 2 cap5)=w6 at *
 generalize (Value.slice (some ⟨g5,0,none⟩) 2 cap5)=rv at *
 go_wp2_with fail
 go_loopw [6,7] (fun sv iv wr=>∃ (k:Nat) (cv:Value) (C:List In8),k≤14∧iv=.int .i64 (k:Int)∧sv=.int .i64 (zki (L.take k) 7)∧C.length≤40∧Box (C=⟨1,0,0,0,7,[]⟩ :: zaX (L.take k))∧Box (GrI w.heap.size wr q rv cv 2 C)∧Box (za [] w wr)) (fun _ iv _=>14 - (intOf iv).toNat)
 case atStart=>exact ⟨0,_,[in1],by omega,rfl,by rw[List.take_zero];rfl,by decide,hid (by rw[List.take_zero];rfl),G1,K3⟩
 case round=>
  obtain ⟨k,cv,C,hk,rfl,rfl,hC,HCL,HR,HK⟩:=hrel
  clear G1 K3
  by_cases hlt:k<14
  ·have hlt':(k:Int)<(14:Int):=by omega
   have hkL:k<L.length:=by rw[HLN.o];exact hlt
   have hz:=List.getElem?_eq_getElem hkL
   obtain ⟨ab,ao,ha,hcz⟩:=HX.o.at hz
   subst ha
   have HC:Box (w.cell? ⟨ab,ao+k * 1,none⟩=some (.int .i64 L[k])):=hid hcz.1
   have HTK:Box (L.take (k+1)=L.take k ++ [L[k]]):=hid (List.take_succ_eq_append_getElem hkL)
   generalize L[k]=z at *
   rw[Nat.mul_one] at HC
   have HS:Box (zki (L.take (k+1)) 7=wrap64 (zki (L.take k) 7+z)):=hid (by rw[HTK.o,sumW_snoc])
   generalize zki (L.take k) 7=s at *
   clear hz hcz hkL
   go_upto_region 13 with fail
   have p7:=zb HK.o HC.o
   have p3:=zc HR.o.h3 0
   have y3:=zg HR.o.h3 0
   have l3:=zt HR.o.h3
   have p4:=zc HR.o.h4 2
   have l4:=zt HR.o.h4
   have hB:w.heap.size≤wr.heap.size:=by have:=HR.o.new;omega
   have OW:Box ((wr.alloc (.cells #[.int .i64 1,.int .i64 1,.int .i64 0,.int .i64 0,.int .i64 z,.slice none 0 0,.int .i64 2,.int .i64 0,.int .i64 1,.int .i64 0,.int .i64 0,.slice none 0 0] 65)).ownsRow w.heap.size 65 6 cv C.length (insCs C)):=hid (zh HR.o.own (za.alloc [] _ _) (fun _ _=>by simp))
   go_region_law (go_loud (refine step_append_lies _ (by rfl) _ _ _ (by rfl) w.heap.size 65 Tryz.t65 (.agg #[.int .i64 0,.int .i64 0,.int .i64 0,.int .i64 0,.int .i64 0,.slice none 0 0]) 6 64 gunder_ins ginfo_in gzero_in gsize_in gbytes_in rfl (by decide) cv C.length (insCs C) (by rfl) (gdrew OW.o) ⟨wr.heap.size,0,none⟩ 2 2 (insCs [⟨1,1,0,0,z,[]⟩,⟨2,0,1,0,0,[]⟩]) (by rfl) (by rfl) (World.news_of_block (cs:=#[.int .i64 1,.int .i64 1,.int .i64 0,.int .i64 0,.int .i64 z,.slice none 0 0,.int .i64 2,.int .i64 0,.int .i64 1,.int .i64 0,.int .i64 0,.slice none 0 0]) (t:=65) (fr:=(0,0)) (ze wr _)) (insC_one _) (by omega) (by unfold maxLen;omega) (by omega) (by simp;omega) (wr.heap.size+1) (by simp) ?_;intro g5 cap5 w5 hown5 hgrow5 hat5 hlt5;have GA:=hid (HR.o.app (M:=[⟨1,1,0,0,z,[]⟩,⟨2,0,1,0,0,[]⟩]) (za.alloc [] wr (.cells #[.int .i64 1,.int .i64 1,.int .i64 0,.int .i64 0,.int .i64 z,.slice none 0 0,.int .i64 2,.int .i64 0,.int .i64 1,.int .i64 0,.int .i64 0,.slice none 0 0] 65)) hown5 ⟨hgrow5.os,hgrow5.tape,hgrow5.output,hgrow5.size,hgrow5.block⟩);have q7:=zb (HR.o.mid (za.alloc [] wr _) ⟨hgrow5.os,hgrow5.tape,hgrow5.output,hgrow5.size,hgrow5.block⟩ rfl HK.o) HC.o;have q3:=zc GA.o.h3 0;have y9:=zg GA.o.h3 0;have l9:=zt GA.o.h3;have q4:=zc GA.o.h4 2;clear hown5 hgrow5 hat5 hlt5))
   all_goals
    have GF:Box (GrI w.heap.size (w5.setCell ⟨q+3,0,none⟩ (.slice (some ⟨g5,0,none⟩) (C.length+2) cap5)) q rv (.slice (some ⟨g5,0,none⟩) (C.length+2) cap5) 2 (C ++ [⟨1,1,0,0,z,[]⟩,⟨2,0,1,0,0,[]⟩])):=hid GA.o.fin
    have KF:Box (za [] w (w5.setCell ⟨q+3,0,none⟩ (.slice (some ⟨g5,0,none⟩) (C.length+2) cap5))):=hid (GA.o.keep w rfl HK.o)
    clear p3 y3 l3 p4 l4 hB OW GA q3 y9 l9 q4 q7 p7
    generalize w5.setCell ⟨q+3,0,none⟩ (.slice (some ⟨g5,0,none⟩) (C.length+2) cap5)=w9 at *
   all_goals
    have x7:=zb KF.o HC.o
    clear HR HK
    go_wp2_with fail
    go_roundw
    case rel=>exact ⟨k+1,_,_,by omega,by go_num,by rw[HS.o],by rw[List.length_append,HCL.o,List.length_cons,Qw,List.length_take];simp;omega,hid (by rw[HCL.o,HTK.o,sumC_snoc];rfl),GF,KF⟩
    case measure=>simp[intOf];omega
  ·obtain rfl:k=14:=by omega
   have HLT:Box (L.take 14=L):=hid (List.take_of_length_le (by rw[HLN.o];exact Nat.le_refl _))
   have PC:=hid (HR.o.prc (by rw[HCL.o,HLT.o];exact sumC_ok HBL.o) (by omega) (by omega))
   rw[HCL.o,HLT.o, ← prS_G] at PC
   rw[HLT.o]
   clear HCL HR hC C HLT
   have hL14:L.length≤14:=by rw[HLN.o];omega
   have W:=hid (zfC (wf_prS L hL14))
   have SM:=hid (sm_prS L hL14)
   have RN:=hid (zcs (a:=none) (cp:=0) (l:=[]) PC.o (HG.o.quiet HK.o) (HT.o.kept HK.o (by simp)) (wf_prS L hL14) (.inl rfl) (by simp))
   have I0:=hid (znb W.o [])
   obtain ⟨mE,h1E,h2E⟩:=zlX L hL14
   have HR:=hid h1E
   have HE2:=hid h2E
   generalize ma0 (prS L) []=m0 at *
   generalize prS L=P at *
   generalize zki L 7=s at *
   clear h1E h2E PC HX HBL HLN
   go_wp2_with fail
   refine RN.o.mono ?_
   rintro e w6 ⟨mp,F6,rfl,m6,k6,n6⟩
   have M6:=hid m6
   have K6:=hid (HK.o.quiet k6)
   have N6:Box (∀ x,x∈F6→w.heap.size≤x):=hid fun x hx=>Nat.le_trans HK.o.size (n6 x hx)
   clear m6 k6 n6 RN HK
   go_wp2_with fail
   go_loopw [9] (fun iv wr=>∃ (k:Nat) (m:Ma) (F:List Nat),k≤40∧iv=.int .i64 (k:Int)∧Box (Q4 wr mp P m F)∧Box (Inv P m)∧Box (za [] w wr)∧Box (∀ x,x∈F→w.heap.size≤x)∧Box (Zi P (40 - k) m=(4,mE))) (fun iv _=>40 - (intOf iv).toNat)
   case atStart=>exact ⟨0,m0,F6,by omega,rfl,M6,I0,K6,N6,HR⟩
   case round=>
    obtain ⟨k,m,F,hk2,rfl,HM,HI,HK,HF,HE⟩:=hrel
    clear M6 I0 K6 N6 HR
    by_cases hlt9:k<40
    ·have hlt8:(k:Int)<40:=by omega
     go_wp2_with fail
     refine (Zu W.o HI.o SM.o HM.o).mono ?_
     rintro e w7 ⟨F2,rfl,m7,k7,n7⟩
     have M7:=hid m7
     have K7:=hid (HK.o.step9 k7 HF.o)
     have N7:Box (∀ x,x∈F2→w.heap.size≤x):=hid (n7.up9 HK.o HF.o)
     have I7:=hid (HI.o.step W.o)
     have E7:Box ((if (zS P m).1=0 then Zi P (40 - (k+1)) (zS P m).2 else zS P m)=(4,mE)):=hid (by
      have:=HE.o
      rw[show 40 - k=(40 - (k+1))+1 by omega,Zi] at this
      exact this)
     clear m7 k7 n7 HM HI HK HF HE
     generalize zS P m=r at *
     obtain ⟨y,m'⟩:=r
     have I7:Box (Inv P m'):=I7
     have M7:Box (Q4 w7 mp P m' F2):=M7
     by_cases hy:y=0
     ·subst hy
      have E8:Box (Zi P (40 - (k+1)) m'=(4,mE)):=hid E7.o
      clear E7
      go_wp2_with fail
      go_roundw
      case rel=>exact ⟨k+1,m',F2,by omega,by go_num,M7,I7,K7,N7,E8⟩
      case measure=>simp[intOf];omega
     ·have E8:(y,m')=(4,mE):=by
       have:=E7.o
       rwa [if_neg hy] at this
      obtain ⟨rfl,rfl⟩:y=4∧m'=mE:=by simpa using E8
      have f1:=fun (x y z:Value)=>zno x y z
      have f2:=fun (x y z:Value)=>znu x y z
      clear E7 E8 hy
      go_wp2_with fail
      refine (zbx M7.o).mono ?_
      rintro e wa ⟨rfl,ka⟩
      have MA:=hid (M7.o.quiet ka)
      have KA:=hid (K7.o.quiet ka)
      clear ka M7 K7
      rw[HE2.o]
      unfold vlV
      go_wp2_with fail
      refine (zbx MA.o).mono ?_
      rintro e wb ⟨rfl,kb⟩
      have KB:=hid (KA.o.quiet kb)
      clear kb MA KA
      rw[HE2.o]
      unfold vlV
      go_wp2_with fail
      go_ret
      exact ⟨rfl,KB.o⟩
    ·exfalso
     obtain rfl:k=40:=by omega
     have E8:=HE.o
     rw[Nat.sub_self] at E8
     have:(0:Int)=4:=congrArg Prod.fst E8
     exact absurd this (by decide)
theorem semSum_walk(a:Option Addr)(cap:Nat)(l:List Int)(w:World)(hg:zbq w)(hT:jb w)(hx:zq w 1 zI a l)(hc:l.length≤cap)(_:l.length≤maxLen):Calls Tryz.prog 13 #[.slice a l.length cap] w fun e w'=>e=.returned (.bool true)∧za [] w w':=by
 by_cases h:l.length≤14
 ·exact semSum_le a cap l w hg hT hx h
 ·exact semSum_gt a cap l w hg hT hx hc (by omega)
end Go.Proofs.YtgmbkiagdhjpnaaGreatDoor
