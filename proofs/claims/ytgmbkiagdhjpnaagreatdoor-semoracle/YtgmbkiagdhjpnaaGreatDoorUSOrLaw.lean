/-
  SemOracle, the walk.
-/
import Derived.Test.YtgmbkiagdhjpnaaGreatDoorUSGrow2
import Derived.Test.YtgmbkiagdhjpnaaGreatDoorUSPlO
import Derived.Test.YtgmbkiagdhjpnaaGreatDoorU38
namespace Go.Proofs.YtgmbkiagdhjpnaaGreatDoor
open Go.RowKit
theorem GrI.form{B:Nat}{w:World}{q nr:Nat}{rv cv:Value}{L:List In8}(h:GrI B w q rv cv nr L)(h0:0<L.length):∃ g cap,cv=.slice (some ⟨g,0,none⟩) L.length cap:=by
 rcases h.own.2 with ⟨_,hn⟩ | ⟨g,cap,cur,rfl,_⟩
 ·omega
 ·exact ⟨g,cap,rfl⟩
theorem cut_any{w:World}(a:Option Addr)(cap:Nat)(l:List Int)(hc:l.length≤cap):Calls Tryz.prog 18 #[.slice a l.length cap] w fun e w'=>e=.returned (.slice a (l.take 30).length cap)∧za [] w w':=by
 rw[List.length_take]
 generalize l.length=n at *
 by_cases h:30<n
 ·rw[Nat.min_eq_left (by omega)]
  have h1:(30:Int)<(n:Int):=by omega
  have h2:(30:Int)≤(cap:Int):=by omega
  go_enter Tryz.func18,Tryz.ntmps18
  go_wp2_with fail
  go_ret
  exact ⟨rfl,za.refl _ _⟩
 ·rw[Nat.min_eq_right (by omega)]
  have h1:¬ (30:Int)<(n:Int):=by omega
  go_enter Tryz.func18,Tryz.ntmps18
  go_wp2_with fail
  go_ret
  exact ⟨rfl,za.refl _ _⟩
theorem take_rows{w:World}{a:Option Addr}{l:List Int}(h:zq w 1 zI a l)(n:Nat):zq w 1 zI a (l.take n):=by
 rcases h with h | ⟨b,off,h1,h2⟩
 ·exact .inl (by rw[h];simp)
 ·refine .inr ⟨b,off,h1,fun j y hy=>h2 j y ?_⟩
  rw[List.getElem?_take] at hy
  split at hy
  ·exact hy
  ·cases hy
set_option maxRecDepth 20000 in
set_option maxHeartbeats 4000000 in
theorem semOracle_out(a:Option Addr)(cap:Nat)(l:List Int)(n:Int)(w:World)(hg:zbq w)(hT:jb w)(hc:l.length≤cap)(hn:n<1∨25<n):Calls Tryz.prog 14 #[.slice a l.length cap,.int .i64 n] w fun e w'=>e=.returned (.bool true)∧za [] w w':=by
 have HG:=hid hg
 have HT:=hid hT
 have HCU:=hid fun (w':World)=>cut_any (w:=w') a cap l hc
 have hor:n<1∨(¬ n<1∧25<n):=by omega
 clear hg hT hn hc
 generalize l.length=ln at *
 generalize (l.take 30).length=N at *
 rcases hor with h1 | ⟨h1,h2⟩
 all_goals
  go_enter Tryz.func14,Tryz.ntmps14
  go_wp2_with fail
  refine (zbs w HG.o HT.o).mono ?_
  rintro e w1 ⟨rfl,k1⟩
  have K1:=hid k1
  clear k1
  go_wp2_with fail
  refine (HCU.o _).mono ?_
  rintro e w2 ⟨rfl,k2⟩
  have K2:=hid (K1.o.quiet k2)
  clear k2
  go_wp2_with fail
  go_ret
  exact ⟨rfl,K2.o⟩
set_option maxRecDepth 20000 in
set_option maxHeartbeats 8000000 in
theorem semOracle_in(a:Option Addr)(cap:Nat)(l:List Int)(n:Nat)(w:World)(hg:zbq w)(hT:jb w)(hx:zq w 1 zI a l)(hc:l.length≤cap)(hn0:1≤n)(hn:n≤25):Calls Tryz.prog 14 #[.slice a l.length cap,.int .i64 (n:Int)] w fun e w'=>e=.returned (.bool true)∧za [] w w':=by
 have HG:=hid hg
 have HT:=hid hT
 have HCU:=hid fun (w':World)=>cut_any (w:=w') a cap l hc
 have HX:=hid (take_rows hx 30)
 have hN3:(l.take 30).length≤30:=by rw[List.length_take];omega
 have h1:¬ (n:Int)<1:=by omega
 have h2:¬ (25:Int)<(n:Int):=by omega
 clear hg hT hc hx
 generalize l.length=ln at *
 generalize l.take 30=L at *
 obtain ⟨N,hN⟩:∃ N,L.length=N:=⟨_,rfl⟩
 rw[hN] at HCU hN3
 have HLN:=hid hN
 clear hN
 go_enter Tryz.func14,Tryz.ntmps14
 go_wp2_with fail
 refine (zbs w HG.o HT.o).mono ?_
 rintro e w1 ⟨rfl,k1⟩
 have K1:=hid k1
 clear k1
 go_wp2_with fail
 refine (HCU.o _).mono ?_
 rintro e wc ⟨rfl,kc⟩
 have K1':=hid (K1.o.quiet kc)
 clear kc K1 HCU
 have K1:=K1'
 clear K1'
 go_wp2_with fail
 refine (zjv wc).mono ?_
 rintro e w2 ⟨rfl,o2,k2⟩
 obtain ⟨q,hq⟩:∃ q,q=wc.heap.size:=⟨_,rfl⟩
 rw[← hq] at o2 ⊢
 have KW:=hid (K1.o.quiet k2)
 have G0:=hid (GrI.start (B:=w.heap.size) o2 (by rw[hq];exact K1.o.size))
 have p5:=zc o2.h5 4
 have l5:=zt o2.h5
 clear o2 k2 hq K1
 go_wp2_with fail
 clear p5 l5 h1 h2
 go_loopw [8] (fun iv wr=>∃ (k:Nat) (cv:Value) (C:List In8),k≤n∧k≤13∧iv=.int .i64 (k:Int)∧C.length≤40∧Box (C=oC k)∧Box (GrI w.heap.size wr q (.slice (some ⟨q+1,0,none⟩) 1 1) cv 1 C)∧Box (za [] w wr)) (fun iv _=>n - (intOf iv).toNat)
 case atStart=>exact ⟨0,_,[in1],by omega,by omega,rfl,by decide,hid rfl,G0,KW⟩
 case round=>
  obtain ⟨k,cv,C,hk,hk13,rfl,hC,HCL,HR,HK⟩:=hrel
  clear G0 KW
  by_cases hlt:k<n
  ·have hlt':(k:Int)<(n:Int):=by omega
   go_upto_region 12 with fail
   go_cut [] (fun wz=>∃ cv9 wq,wq=wz∧Box (GrI w.heap.size wq q (.slice (some ⟨q+1,0,none⟩) 1 1) cv9 1 (C ++ [⟨3,0,0,0,0,[]⟩,⟨15,0,0,0,0,[]⟩]))∧Box (za [] w wq))
   case first=>
    have p3:=zc HR.o.h3 0
    have y3:=zg HR.o.h3 0
    have l3:=zt HR.o.h3
    have p4:=zc HR.o.h4 2
    have l4:=zt HR.o.h4
    have hB:w.heap.size≤wr.heap.size:=by have:=HR.o.new;omega
    have OW:Box ((wr.alloc (.cells #[.int .i64 3,.int .i64 0,.int .i64 0,.int .i64 0,.int .i64 0,.slice none 0 0,.int .i64 15,.int .i64 0,.int .i64 0,.int .i64 0,.int .i64 0,.slice none 0 0] 65)).ownsRow w.heap.size 65 6 cv C.length (insCs C)):=hid (zh HR.o.own (za.alloc [] _ _) (fun _ _=>by simp))
    go_region_law (go_loud (refine step_append_lies _ (by rfl) _ _ _ (by rfl) w.heap.size 65 Tryz.t65 (.agg #[.int .i64 0,.int .i64 0,.int .i64 0,.int .i64 0,.int .i64 0,.slice none 0 0]) 6 64 gunder_ins ginfo_in gzero_in gsize_in gbytes_in rfl (by decide) cv C.length (insCs C) (by rfl) (gdrew OW.o) ⟨wr.heap.size,0,none⟩ 2 2 (insCs [⟨3,0,0,0,0,[]⟩,⟨15,0,0,0,0,[]⟩]) (by rfl) (by rfl) (World.news_of_block (cs:=#[.int .i64 3,.int .i64 0,.int .i64 0,.int .i64 0,.int .i64 0,.slice none 0 0,.int .i64 15,.int .i64 0,.int .i64 0,.int .i64 0,.int .i64 0,.slice none 0 0]) (t:=65) (fr:=(0,0)) (ze wr _)) (insC_one _) (by omega) (by unfold maxLen;omega) (by omega) (by simp;omega) (wr.heap.size+1) (by simp) ?_;intro g5 cap5 w5 hown5 hgrow5 hat5 hlt5;have GA:=hid (HR.o.app (M:=[⟨3,0,0,0,0,[]⟩,⟨15,0,0,0,0,[]⟩]) (za.alloc [] wr (.cells #[.int .i64 3,.int .i64 0,.int .i64 0,.int .i64 0,.int .i64 0,.slice none 0 0,.int .i64 15,.int .i64 0,.int .i64 0,.int .i64 0,.int .i64 0,.slice none 0 0] 65)) hown5 ⟨hgrow5.os,hgrow5.tape,hgrow5.output,hgrow5.size,hgrow5.block⟩);have q3:=zc GA.o.h3 0;have y9:=zg GA.o.h3 0;have l9:=zt GA.o.h3;have q4:=zc GA.o.h4 2;clear hown5 hgrow5 hat5 hlt5))
    all_goals
     have GF:Box (GrI w.heap.size (w5.setCell ⟨q+3,0,none⟩ (.slice (some ⟨g5,0,none⟩) (C.length+2) cap5)) q (.slice (some ⟨q+1,0,none⟩) 1 1) (.slice (some ⟨g5,0,none⟩) (C.length+2) cap5) 1 (C ++ [⟨3,0,0,0,0,[]⟩,⟨15,0,0,0,0,[]⟩])):=hid GA.o.fin
     have KF:Box (za [] w (w5.setCell ⟨q+3,0,none⟩ (.slice (some ⟨g5,0,none⟩) (C.length+2) cap5))):=hid (GA.o.keep w rfl HK.o)
     clear p3 y3 l3 p4 l4 hB OW GA q3 y9 l9 q4
     generalize w5.setCell ⟨q+3,0,none⟩ (.slice (some ⟨g5,0,none⟩) (C.length+2) cap5)=w9 at *
    all_goals
     go_wp2_with fail
     go_meet
     exact ⟨_,_,rfl,GF,KF⟩
   case rest=>
    obtain ⟨cv9,wX,rfl,GF,KF⟩:=hcut
    clear HR HK
    rw[HCL.o,show oC k ++ [⟨3,0,0,0,0,[]⟩,⟨15,0,0,0,0,[]⟩]=oC (k+1) from rfl] at GF
    clear HCL hC C
    obtain ⟨j,hj⟩:∃ j,j=k+1:=⟨_,rfl⟩
    rw[← hj] at GF
    obtain ⟨g3,cap3,hcv⟩:=GF.o.form (by rw[oC_len];omega)
    have c3:=zc GF.o.h3 0
    have c4:=zc GF.o.h4 2
    rw[hcv,oC_len] at c3
    by_cases hbr:28<1+2 * j
    ·have hbr':(28:Int)<((1+2 * j:Nat):Int):=by omega
     have hj14:j≤14:=by omega
     have hj1:1≤j:=by omega
     go_upto_region 14 with fail
     clear c3 c4 hcv hj hbr hbr' hlt hlt' hk hk13
     have hjj:j≤14:=by omega
     have h1j:1≤j:=by omega
     obtain ⟨cg,cc,hcv⟩:=GF.o.form (by rw[oC_len];omega)
     rw[oC_len] at hcv
     subst hcv
     have PC:Box (PrC wX (q+5) 0 (prO j)):=hid (GF.o.prc (oC_ok j) (by rw[oC_len];omega) (by omega))
     have W:=hid (zfC (wf_prO j (by omega)))
     have SM:=hid (sm_prO j (by omega))
     have RN:=hid (zcs (a:=a) (cp:=cap) (l:=L) PC.o (HG.o.quiet KF.o) (HT.o.kept KF.o (by simp)) (wf_prO j (by omega)) (HX.o.quiet zI.stays KF.o) (by rw[HLN.o];omega))
     rw[HLN.o] at RN
     have I0:=hid (znb W.o L)
     have I1:=hid (I0.o.step W.o)
     have S0:=hid (so_first j L)
     rw[S0.o] at I1
     have SS:=hid fun (t:Nat) (h:t<j) (v:V3) (sk:Bool)=>so_src h L v sk
     have SK:=hid fun (t:Nat) (h:t<j) (z:Int) (sk:Bool)=>so_snk h L z sk
     generalize ma0 (prO j) L=m0 at *
     generalize prO j=P at *
     clear PC
     go_wp2_with fail
     refine RN.o.mono ?_
     rintro e wy ⟨mp,F6,rfl,m6,k6,n6⟩
     have M6:=hid m6
     have K6:=hid k6
     have N6:=hid n6
     clear m6 k6 n6 RN
     go_wp2_with fail
     refine (Zu W.o I0.o SM.o M6.o).mono ?_
     rintro e wu ⟨F7,rfl,m7,k7,n7⟩
     rw[S0.o] at m7 ⊢
     have M7:=hid m7
     have K7:=hid (K6.o.step9 k7 N6.o)
     have N7:Box (∀ x,x∈F7→wX.heap.size≤x):=hid (n7.up9 K6.o N6.o)
     clear m7 k7 n7 M6 K6 N6 I0 S0
     go_wp2_with fail
     go_loopw [10,11,12,13,14] (fun kv iv _ _ _ wl=>∃ (t:Nat) (v:V3) (sk:Bool) (F:List Nat),t≤j∧kv=.int .i64 (t:Int)∧iv=.int .i64 ((1+2 * t:Nat):Int)∧Box (Q4 wl mp P (MO L t (1+2 * t) v sk) F)∧Box (Inv P (MO L t (1+2 * t) v sk))∧Box (za [] wX wl)∧Box (∀ x,x∈F→wX.heap.size≤x)) (fun kv _ _ _ _ _=>j - (intOf kv).toNat)
     case atStart=>exact ⟨0,_,_,F7,by omega,rfl,rfl,M7,I1,K7,N7⟩
     case round=>
      obtain ⟨t,v,sk,F,ht,rfl,rfl,HM,HI,HK9,HF⟩:=hrel
      clear M7 I1 K7 N7
      have GQ:=hid (GF.o.quiet HK9.o)
      have c3:=zc GQ.o.h3 0
      have c4:=zc GQ.o.h4 2
      by_cases hlt:t<j
      ·have hlt':((1+2 * t:Nat):Int)+1<((1+2 * j:Nat):Int):=by omega
       have hi9:((1+2 * t:Nat):Int)≤100:=by omega
       go_wp2_with fail
       clear c3 c4 GQ
       refine (Zu W.o HI.o SM.o HM.o).mono ?_
       rintro e w7 ⟨F2,rfl,m7,k7,n7⟩
       have I2:=HI.o.step W.o
       rw[SS.o t hlt] at m7 I2 ⊢
       obtain ⟨z,hz⟩:∃ z,z=(L.drop t).headD 0:=⟨_,rfl⟩
       rw[← hz] at m7 I2
       have HZ:=hid hz
       have M7:=hid m7
       have I2:=hid I2
       have K7:=hid (HK9.o.step9 k7 HF.o)
       have N7:Box (∀ x,x∈F2→wX.heap.size≤x):=hid (n7.up9 HK9.o HF.o)
       clear m7 k7 n7 HM HI HK9 HF hz
       go_wp2_with fail
       refine (zlS I2.o M7.o 0 (by decide)).mono ?_
       rintro e w8 ⟨rfl,k8⟩
       rw[show (MO L (t+1) (2+2 * t) (0,z,true) false).top.get ((0:Nat):Int)=(0,z,true) from rfl,show ((MO L (t+1) (2+2 * t) (0,z,true) false).top.rs.getD 0 rg0).2=true from rfl]
       have M8:=hid (M7.o.quiet k8)
       have K8:=hid (K7.o.quiet k8)
       clear k8 M7 K7
       unfold vlV
       go_upto_region 22 with fail
       have KA:=hid (za.alloc [] w8 (.cells #[.int .i64 0,.int .i64 z,.bool true] 39))
       have M9:=hid (M8.o.quiet KA.o)
       have K9:=hid (K8.o.quiet KA.o)
       have HV:=hid (ze w8 (.cells #[.int .i64 0,.int .i64 z,.bool true] 39))
       have HVF:Box (w8.heap.size ∉ F2):=hid fun hm=>by have:=M8.o.lt _ hm;omega
       generalize w8.alloc (.cells #[.int .i64 0,.int .i64 z,.bool true] 39)=w9 at *
       generalize w8.heap.size=vb at *
       clear M8 K8 KA
       by_cases htN:t<N
       case' pos=>
        have htN':(t:Int)<(N:Int):=by omega
        have hkL:t<L.length:=by rw[HLN.o];exact htN
        have hz9:=List.getElem?_eq_getElem hkL
        obtain ⟨ab,ao,ha,hcz⟩:=(HX.o.quiet zI.stays (KF.o.quiet K9.o)).at hz9
        subst ha
        have ez:z=L[t]:=by
         rw[HZ.o,List.headD_eq_head?_getD,List.head?_drop,hz9]
         rfl
        have x1:=hcz.1
        rw[← ez,Nat.mul_one] at x1
        clear hz9 hcz ez hkL
       case' neg=>
        have htN':¬ (t:Int)<(N:Int):=by omega
        have ez:z=0:=by
         rw[HZ.o,List.headD_eq_head?_getD,List.head?_drop,List.getElem?_eq_none (by rw[HLN.o];omega)]
         rfl
        subst ez
       all_goals
        go_wp2_with fail
        refine (Zu W.o I2.o SM.o M9.o).mono ?_
        rintro e wa ⟨F3,rfl,ma,ka,na⟩
        have I3:=I2.o.step W.o
        rw[SK.o t hlt] at ma I3 ⊢
        have MA:=hid ma
        have I3:=hid I3
        have KA:=hid (K9.o.step9 ka N7.o)
        have NA:Box (∀ x,x∈F3→wX.heap.size≤x):=hid (na.up9 K9.o N7.o)
        have HVA:=hid ((ka.block _ (zt HV.o) HVF.o).trans HV.o)
        have v1:=zc HVA.o 1
        have v2:=zc HVA.o 2
        clear ma ka na M9 K9 N7 I2 HV HVF
        go_wp2_with fail
        refine (zkV MA.o).mono ?_
        rintro e wb ⟨rfl,kb⟩
        rw[show (MO L (t+1) (1+2 * (t+1)) (0,_,true) true).sk=true from rfl]
        have MB:=hid (MA.o.quiet kb)
        have KB:=hid (KA.o.quiet kb)
        clear kb MA KA
        go_wp2_with fail
        go_roundw
        case rel=>exact ⟨t+1,_,_,F3,by omega,by go_num,by go_num,MB,I3,KB,NA⟩
        case measure=>simp[intOf];omega
      ·obtain rfl:t=j:=by omega
       have hlt':¬ ((1+2 * t:Nat):Int)+1<((1+2 * t:Nat):Int):=by omega
       have hi9:((1+2 * t:Nat):Int)≤100:=by omega
       go_wp2_with fail
       go_ret
       exact ⟨rfl,KF.o.quiet HK9.o⟩
    ·have hbr':¬ (28:Int)<((1+2 * j:Nat):Int):=by omega
     go_wp2_with fail
     clear c3 c4 hcv
     go_roundw
     case rel=>exact ⟨j,_,_,by omega,by omega,by rw[hj];go_num,by rw[oC_len];omega,hid rfl,GF,KF⟩
     case measure=>simp[intOf];omega
  ·obtain rfl:n=k:=by omega
   have hlt':¬ (n:Int)<(n:Int):=by omega
   have GF:=HR
   have KF:=HK
   rw[HCL.o] at GF
   clear HR HK HCL hC C
   go_upto_region 14 with fail
   generalize wr=wX at *
   have hjj:n≤14:=by omega
   have h1j:1≤n:=by omega
   obtain ⟨cg,cc,hcv⟩:=GF.o.form (by rw[oC_len];omega)
   rw[oC_len] at hcv
   subst hcv
   have PC:Box (PrC wX (q+5) 0 (prO n)):=hid (GF.o.prc (oC_ok n) (by rw[oC_len];omega) (by omega))
   have W:=hid (zfC (wf_prO n (by omega)))
   have SM:=hid (sm_prO n (by omega))
   have RN:=hid (zcs (a:=a) (cp:=cap) (l:=L) PC.o (HG.o.quiet KF.o) (HT.o.kept KF.o (by simp)) (wf_prO n (by omega)) (HX.o.quiet zI.stays KF.o) (by rw[HLN.o];omega))
   rw[HLN.o] at RN
   have I0:=hid (znb W.o L)
   have I1:=hid (I0.o.step W.o)
   have S0:=hid (so_first n L)
   rw[S0.o] at I1
   have SS:=hid fun (t:Nat) (h:t<n) (v:V3) (sk:Bool)=>so_src h L v sk
   have SK:=hid fun (t:Nat) (h:t<n) (z:Int) (sk:Bool)=>so_snk h L z sk
   generalize ma0 (prO n) L=m0 at *
   generalize prO n=P at *
   clear PC
   go_wp2_with fail
   refine RN.o.mono ?_
   rintro e wy ⟨mp,F6,rfl,m6,k6,n6⟩
   have M6:=hid m6
   have K6:=hid k6
   have N6:=hid n6
   clear m6 k6 n6 RN
   go_wp2_with fail
   refine (Zu W.o I0.o SM.o M6.o).mono ?_
   rintro e wu ⟨F7,rfl,m7,k7,n7⟩
   rw[S0.o] at m7 ⊢
   have M7:=hid m7
   have K7:=hid (K6.o.step9 k7 N6.o)
   have N7:Box (∀ x,x∈F7→wX.heap.size≤x):=hid (n7.up9 K6.o N6.o)
   clear m7 k7 n7 M6 K6 N6 I0 S0
   go_wp2_with fail
   go_loopw [10,11,12,13,14] (fun kv iv _ _ _ wl=>∃ (t:Nat) (v:V3) (sk:Bool) (F:List Nat),t≤n∧kv=.int .i64 (t:Int)∧iv=.int .i64 ((1+2 * t:Nat):Int)∧Box (Q4 wl mp P (MO L t (1+2 * t) v sk) F)∧Box (Inv P (MO L t (1+2 * t) v sk))∧Box (za [] wX wl)∧Box (∀ x,x∈F→wX.heap.size≤x)) (fun kv _ _ _ _ _=>n - (intOf kv).toNat)
   case atStart=>exact ⟨0,_,_,F7,by omega,rfl,rfl,M7,I1,K7,N7⟩
   case round=>
    obtain ⟨t,v,sk,F,ht,rfl,rfl,HM,HI,HK9,HF⟩:=hrel
    clear M7 I1 K7 N7
    have GQ:=hid (GF.o.quiet HK9.o)
    have c3:=zc GQ.o.h3 0
    have c4:=zc GQ.o.h4 2
    by_cases hlt:t<n
    ·have hlt':((1+2 * t:Nat):Int)+1<((1+2 * n:Nat):Int):=by omega
     have hi9:((1+2 * t:Nat):Int)≤100:=by omega
     go_wp2_with fail
     clear c3 c4 GQ
     refine (Zu W.o HI.o SM.o HM.o).mono ?_
     rintro e w7 ⟨F2,rfl,m7,k7,n7⟩
     have I2:=HI.o.step W.o
     rw[SS.o t hlt] at m7 I2 ⊢
     obtain ⟨z,hz⟩:∃ z,z=(L.drop t).headD 0:=⟨_,rfl⟩
     rw[← hz] at m7 I2
     have HZ:=hid hz
     have M7:=hid m7
     have I2:=hid I2
     have K7:=hid (HK9.o.step9 k7 HF.o)
     have N7:Box (∀ x,x∈F2→wX.heap.size≤x):=hid (n7.up9 HK9.o HF.o)
     clear m7 k7 n7 HM HI HK9 HF hz
     go_wp2_with fail
     refine (zlS I2.o M7.o 0 (by decide)).mono ?_
     rintro e w8 ⟨rfl,k8⟩
     rw[show (MO L (t+1) (2+2 * t) (0,z,true) false).top.get ((0:Nat):Int)=(0,z,true) from rfl,show ((MO L (t+1) (2+2 * t) (0,z,true) false).top.rs.getD 0 rg0).2=true from rfl]
     have M8:=hid (M7.o.quiet k8)
     have K8:=hid (K7.o.quiet k8)
     clear k8 M7 K7
     unfold vlV
     go_upto_region 22 with fail
     have KA:=hid (za.alloc [] w8 (.cells #[.int .i64 0,.int .i64 z,.bool true] 39))
     have M9:=hid (M8.o.quiet KA.o)
     have K9:=hid (K8.o.quiet KA.o)
     have HV:=hid (ze w8 (.cells #[.int .i64 0,.int .i64 z,.bool true] 39))
     have HVF:Box (w8.heap.size ∉ F2):=hid fun hm=>by have:=M8.o.lt _ hm;omega
     generalize w8.alloc (.cells #[.int .i64 0,.int .i64 z,.bool true] 39)=w9 at *
     generalize w8.heap.size=vb at *
     clear M8 K8 KA
     by_cases htN:t<N
     case' pos=>
      have htN':(t:Int)<(N:Int):=by omega
      have hkL:t<L.length:=by rw[HLN.o];exact htN
      have hz9:=List.getElem?_eq_getElem hkL
      obtain ⟨ab,ao,ha,hcz⟩:=(HX.o.quiet zI.stays (KF.o.quiet K9.o)).at hz9
      subst ha
      have ez:z=L[t]:=by
       rw[HZ.o,List.headD_eq_head?_getD,List.head?_drop,hz9]
       rfl
      have x1:=hcz.1
      rw[← ez,Nat.mul_one] at x1
      clear hz9 hcz ez hkL
     case' neg=>
      have htN':¬ (t:Int)<(N:Int):=by omega
      have ez:z=0:=by
       rw[HZ.o,List.headD_eq_head?_getD,List.head?_drop,List.getElem?_eq_none (by rw[HLN.o];omega)]
       rfl
      subst ez
     all_goals
      go_wp2_with fail
      refine (Zu W.o I2.o SM.o M9.o).mono ?_
      rintro e wa ⟨F3,rfl,ma,ka,na⟩
      have I3:=I2.o.step W.o
      rw[SK.o t hlt] at ma I3 ⊢
      have MA:=hid ma
      have I3:=hid I3
      have KA:=hid (K9.o.step9 ka N7.o)
      have NA:Box (∀ x,x∈F3→wX.heap.size≤x):=hid (na.up9 K9.o N7.o)
      have HVA:=hid ((ka.block _ (zt HV.o) HVF.o).trans HV.o)
      have v1:=zc HVA.o 1
      have v2:=zc HVA.o 2
      clear ma ka na M9 K9 N7 I2 HV HVF
      go_wp2_with fail
      refine (zkV MA.o).mono ?_
      rintro e wb ⟨rfl,kb⟩
      rw[show (MO L (t+1) (1+2 * (t+1)) (0,_,true) true).sk=true from rfl]
      have MB:=hid (MA.o.quiet kb)
      have KB:=hid (KA.o.quiet kb)
      clear kb MA KA
      go_wp2_with fail
      go_roundw
      case rel=>exact ⟨t+1,_,_,F3,by omega,by go_num,by go_num,MB,I3,KB,NA⟩
      case measure=>simp[intOf];omega
    ·obtain rfl:t=n:=by omega
     have hlt':¬ ((1+2 * t:Nat):Int)+1<((1+2 * t:Nat):Int):=by omega
     have hi9:((1+2 * t:Nat):Int)≤100:=by omega
     go_wp2_with fail
     go_ret
     exact ⟨rfl,KF.o.quiet HK9.o⟩
theorem semOracle_walk(a:Option Addr)(cap:Nat)(l:List Int)(n:Int)(w:World)(hg:zbq w)(hT:jb w)(hx:zq w 1 zI a l)(hc:l.length≤cap)(_:l.length≤maxLen)(_:b64 n):Calls Tryz.prog 14 #[.slice a l.length cap,.int .i64 n] w fun e w'=>e=.returned (.bool true)∧za [] w w':=by
 by_cases h:n<1∨25<n
 ·exact semOracle_out a cap l n w hg hT hc h
 ·obtain ⟨k,rfl⟩:∃ k:Nat,n=(k:Int):=⟨n.toNat,by omega⟩
  exact semOracle_in a cap l k w hg hT hx hc (by omega) (by omega)
end Go.Proofs.YtgmbkiagdhjpnaaGreatDoor
