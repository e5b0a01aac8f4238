/-
  SemDeep, the walk.
-/
import Derived.Test.YtgmbkiagdhjpnaaGreatDoorUSGrow
import Derived.Test.YtgmbkiagdhjpnaaGreatDoorUSPlD
namespace Go.Proofs.YtgmbkiagdhjpnaaGreatDoor
open Go.RowKit
theorem wf_prD:∀ n,n<21→wfO (prD n)=none:=by decide +kernel
theorem sm_prD(n:Nat)(hn:n<21):Sm8 (prD n):=⟨by show 1≤12;omega,fun f hf=>(by
 have hf:f<1:=hf
 obtain rfl:f=0:=by omega
 show 1≤14
 omega),(by decide +kernel:∀ n,n<21→(pts (prD n)).length≤150) n hn⟩
theorem inB9{o d a b n:Int}(h:(-100≤o∧o≤100)∧(-100≤d∧d≤100)∧(-100≤a∧a≤100)∧(-100≤b∧b≤100))(hn:b64 n):InB ⟨o,d,a,b,n,[]⟩:=⟨⟨x64 h.1,x64 h.2.1,x64 h.2.2.1,x64 h.2.2.2,hn⟩,rfl⟩
def dC(n:Nat):List In8:=⟨1,0,0,0,7,[]⟩ :: (List.range n).map fun (i:Nat)=>⟨1,0,0,0,(i:Int),[]⟩
theorem dC_succ(n:Nat):dC (n+1)=dC n ++ [⟨1,0,0,0,(n:Int),[]⟩]:=by
 unfold dC
 rw[List.range_succ,List.map_append]
 rfl
theorem dC_len(n:Nat):(dC n).length=n+1:=by unfold dC;simp
theorem prD_G(n:Nat):prD n=prG 1 (dC n ++ [⟨12,0,0,0,0,[]⟩]):=rfl
theorem dC_ok(n:Nat)(hn:n≤100):∀ x,x∈dC n ++ [⟨12,0,0,0,0,[]⟩]→InB x:=by
 intro x hx
 unfold dC at hx
 simp only[List.mem_append,List.mem_cons,List.mem_map,List.mem_range,List.not_mem_nil,or_false] at hx
 rcases hx with (rfl | ⟨k,hk,rfl⟩) | rfl
 ·exact ⟨by unfold b64;decide,rfl⟩
 ·exact inB9 (by decide) (by unfold b64;omega)
 ·exact ⟨by unfold b64;decide,rfl⟩
set_option maxRecDepth 20000 in
set_option maxHeartbeats 4000000 in
theorem semDeep_out(n:Int)(w:World)(hg:zbq w)(hT:jb w)(hn:n<0∨20<n):Calls Tryz.prog 15 #[.int .i64 n] w fun e w'=>e=.returned (.bool true)∧za [] w w':=by
 have HG:=hid hg
 have HT:=hid hT
 have hor:n<0∨(¬ n<0∧20<n):=by omega
 clear hg hT hn
 rcases hor with h1 | ⟨h1,h2⟩
 all_goals
  go_enter Tryz.func15,Tryz.ntmps15
  go_wp2_with fail
  refine (zbs w HG.o HT.o).mono ?_
  rintro e w1 ⟨rfl,k1⟩
  have K1:=hid k1
  clear k1
  go_wp2_with fail
  go_ret
  exact ⟨rfl,K1.o⟩
set_option maxRecDepth 20000 in
set_option maxHeartbeats 8000000 in
theorem semDeep_in(n:Nat)(w:World)(hg:zbq w)(hT:jb w)(hn:n≤20):Calls Tryz.prog 15 #[.int .i64 (n:Int)] w fun e w'=>e=.returned (.bool true)∧za [] w w':=by
 have HG:=hid hg
 have HT:=hid hT
 have h1:¬ (n:Int)<0:=by omega
 have h2:¬ (20:Int)<(n:Int):=by omega
 clear hg hT
 go_enter Tryz.func15,Tryz.ntmps15
 go_wp2_with fail
 refine (zbs w HG.o HT.o).mono ?_
 rintro e w1 ⟨rfl,k1⟩
 have K1:=hid k1
 clear k1
 go_wp2_with fail
 refine (zjv w1).mono ?_
 rintro e w2 ⟨rfl,o2,k2⟩
 obtain ⟨q,hq⟩:∃ q,q=w1.heap.size:=⟨_,rfl⟩
 rw[← hq] at o2 ⊢
 have KW:=hid (K1.o.quiet k2)
 have G0:=hid (GrI.start (B:=w.heap.size) o2 (by rw[hq];exact K1.o.size))
 have p5:=zc o2.h5 4
 have l5:=zt o2.h5
 clear o2 k2 hq K1
 go_wp2_with fail
 clear p5 l5 h1 h2
 go_loopw [6] (fun iv wr=>∃ (k:Nat) (cv:Value) (L:List In8),k≤n∧iv=.int .i64 (k:Int)∧L.length≤40∧Box (L=dC k)∧Box (GrI w.heap.size wr q (.slice (some ⟨q+1,0,none⟩) 1 1) cv 1 L)∧Box (za [] w wr)) (fun iv _=>n - (intOf iv).toNat)
 case atStart=>exact ⟨0,_,[in1],by omega,rfl,by decide,hid rfl,G0,KW⟩
 case round=>
  obtain ⟨k,cv,L,hk,rfl,hL,HL,HR,HK⟩:=hrel
  clear G0 KW
  by_cases hlt:k<n
  ·have hlt':(k:Int)<(n:Int):=by omega
   go_upto_region 11 with fail
   have p3:=zc HR.o.h3 0
   have y3:=zg HR.o.h3 0
   have l3:=zt HR.o.h3
   have p4:=zc HR.o.h4 2
   have l4:=zt HR.o.h4
   have hB:w.heap.size≤wr.heap.size:=by have:=HR.o.new;omega
   have OW:Box ((wr.alloc (.cells #[.int .i64 1,.int .i64 0,.int .i64 0,.int .i64 0,.int .i64 (k:Int),.slice none 0 0] 65)).ownsRow w.heap.size 65 6 cv L.length (insCs L)):=hid (zh HR.o.own (za.alloc [] _ _) (fun _ _=>by simp))
   go_region_law (go_loud (refine step_append_lies _ (by rfl) _ _ _ (by rfl) w.heap.size 65 Tryz.t65 (.agg #[.int .i64 0,.int .i64 0,.int .i64 0,.int .i64 0,.int .i64 0,.slice none 0 0]) 6 64 gunder_ins ginfo_in gzero_in gsize_in gbytes_in rfl (by decide) cv L.length (insCs L) (by rfl) (gdrew OW.o) ⟨wr.heap.size,0,none⟩ 1 1 (insCs [⟨1,0,0,0,(k:Int),[]⟩]) (by rfl) (by rfl) (World.news_of_block (cs:=#[.int .i64 1,.int .i64 0,.int .i64 0,.int .i64 0,.int .i64 (k:Int),.slice none 0 0]) (t:=65) (fr:=(0,0)) (ze wr _)) (insC_one _) (by omega) (by unfold maxLen;omega) (by omega) (by simp;omega) (wr.heap.size+1) (by simp) ?_;intro g5 cap5 w5 hown5 hgrow5 hat5 hlt5;have GA:=hid (HR.o.app (M:=[⟨1,0,0,0,(k:Int),[]⟩]) (za.alloc [] wr (.cells #[.int .i64 1,.int .i64 0,.int .i64 0,.int .i64 0,.int .i64 (k:Int),.slice none 0 0] 65)) hown5 ⟨hgrow5.os,hgrow5.tape,hgrow5.output,hgrow5.size,hgrow5.block⟩);have q3:=zc GA.o.h3 0;have y9:=zg GA.o.h3 0;have l9:=zt GA.o.h3;have q4:=zc GA.o.h4 2;clear hown5 hgrow5 hat5 hlt5))
   all_goals
    have GF:Box (GrI w.heap.size (w5.setCell ⟨q+3,0,none⟩ (.slice (some ⟨g5,0,none⟩) (L.length+1) cap5)) q (.slice (some ⟨q+1,0,none⟩) 1 1) (.slice (some ⟨g5,0,none⟩) (L.length+1) cap5) 1 (L ++ [⟨1,0,0,0,(k:Int),[]⟩])):=hid GA.o.fin
    have KF:Box (za [] w (w5.setCell ⟨q+3,0,none⟩ (.slice (some ⟨g5,0,none⟩) (L.length+1) cap5))):=hid (GA.o.keep w rfl HK.o)
    clear p3 y3 l3 p4 l4 hB OW GA q3 y9 l9 q4
    generalize w5.setCell ⟨q+3,0,none⟩ (.slice (some ⟨g5,0,none⟩) (L.length+1) cap5)=w9 at *
   all_goals
    clear HR HK
    go_wp2_with fail
    go_roundw
    case rel=>exact ⟨k+1,_,_,by omega,by go_num,by rw[List.length_append,HL.o,dC_len];simp;omega,hid (by rw[HL.o,dC_succ]),GF,KF⟩
    case measure=>simp[intOf];omega
  ·obtain rfl:n=k:=by omega
   have hlt':¬ (n:Int)<(n:Int):=by omega
   go_upto_region 12 with fail
   go_cut [] (fun wz=>∃ cv9,Box (GrI w.heap.size wz q (.slice (some ⟨q+1,0,none⟩) 1 1) cv9 1 (L ++ [⟨12,0,0,0,0,[]⟩]))∧Box (za [] w wz))
   case first=>
    have p3:=zc HR.o.h3 0
    have y3:=zg HR.o.h3 0
    have l3:=zt HR.o.h3
    have p4:=zc HR.o.h4 2
    have l4:=zt HR.o.h4
    have hB:w.heap.size≤wr.heap.size:=by have:=HR.o.new;omega
    have OW:Box ((wr.alloc (.cells #[.int .i64 12,.int .i64 0,.int .i64 0,.int .i64 0,.int .i64 0,.slice none 0 0] 65)).ownsRow w.heap.size 65 6 cv L.length (insCs L)):=hid (zh HR.o.own (za.alloc [] _ _) (fun _ _=>by simp))
    go_region_law (go_loud (refine step_append_lies _ (by rfl) _ _ _ (by rfl) w.heap.size 65 Tryz.t65 (.agg #[.int .i64 0,.int .i64 0,.int .i64 0,.int .i64 0,.int .i64 0,.slice none 0 0]) 6 64 gunder_ins ginfo_in gzero_in gsize_in gbytes_in rfl (by decide) cv L.length (insCs L) (by rfl) (gdrew OW.o) ⟨wr.heap.size,0,none⟩ 1 1 (insCs [⟨12,0,0,0,0,[]⟩]) (by rfl) (by rfl) (World.news_of_block (cs:=#[.int .i64 12,.int .i64 0,.int .i64 0,.int .i64 0,.int .i64 0,.slice none 0 0]) (t:=65) (fr:=(0,0)) (ze wr _)) (insC_one _) (by omega) (by unfold maxLen;omega) (by omega) (by simp;omega) (wr.heap.size+1) (by simp) ?_;intro g5 cap5 w5 hown5 hgrow5 hat5 hlt5;have GA:=hid (HR.o.app (M:=[⟨12,0,0,0,0,[]⟩]) (za.alloc [] wr (.cells #[.int .i64 12,.int .i64 0,.int .i64 0,.int .i64 0,.int .i64 0,.slice none 0 0] 65)) hown5 ⟨hgrow5.os,hgrow5.tape,hgrow5.output,hgrow5.size,hgrow5.block⟩);have q3:=zc GA.o.h3 0;have y9:=zg GA.o.h3 0;have l9:=zt GA.o.h3;have q4:=zc GA.o.h4 2;clear hown5 hgrow5 hat5 hlt5))
    all_goals
     have GF:Box (GrI w.heap.size (w5.setCell ⟨q+3,0,none⟩ (.slice (some ⟨g5,0,none⟩) (L.length+1) cap5)) q (.slice (some ⟨q+1,0,none⟩) 1 1) (.slice (some ⟨g5,0,none⟩) (L.length+1) cap5) 1 (L ++ [⟨12,0,0,0,0,[]⟩])):=hid GA.o.fin
     have KF:Box (za [] w (w5.setCell ⟨q+3,0,none⟩ (.slice (some ⟨g5,0,none⟩) (L.length+1) cap5))):=hid (GA.o.keep w rfl HK.o)
     clear p3 y3 l3 p4 l4 hB OW GA q3 y9 l9 q4
     generalize w5.setCell ⟨q+3,0,none⟩ (.slice (some ⟨g5,0,none⟩) (L.length+1) cap5)=w9 at *
    all_goals
     go_wp2_with fail
     go_meet
     exact ⟨_,GF,KF⟩
   case rest=>
    obtain ⟨cv9,GF,KF⟩:=hcut
    have PC:=hid (GF.o.prc (by rw[HL.o];exact dC_ok n (by omega)) (by rw[List.length_append];simp;omega) (by omega))
    rw[HL.o, ← prD_G] at PC
    clear HR HK GF HL hL
    obtain ⟨b1,b2,b3⟩:=brD n (by omega)
    obtain ⟨N,hN⟩:∃ N,N=60 * (n+3):=⟨_,rfl⟩
    rw[← hN] at b1 b2 b3
    have hNi:(60:Int) * ((n:Int)+3)=(N:Int):=by omega
    have W:=hid (zfC (wf_prD n (by omega)))
    have SM:=hid (sm_prD n (by omega))
    have RN:=hid (zcs (a:=none) (cp:=0) (l:=[]) PC.o (HG.o.quiet KF.o) (HT.o.kept KF.o (by simp)) (wf_prD n (by omega)) (.inl rfl) (by simp))
    have I0:=hid (znb W.o [])
    obtain ⟨R,hR⟩:∃ R,R=Zi (prD n) N (ma0 (prD n) []):=⟨_,rfl⟩
    rw[← hR] at b1 b2 b3
    have HR:=hid hR
    have B1:=hid b1
    have B2:=hid b2
    have B3:=hid b3
    have hN3:N≤2000:=by omega
    generalize ma0 (prD n) []=m0 at *
    generalize prD n=P at *
    clear b1 b2 b3 hR hN PC
    go_wp2_with fail
    refine RN.o.mono ?_
    rintro e w6 ⟨mp,F6,rfl,m6,k6,n6⟩
    have M6:=hid m6
    have K6:=hid (KF.o.quiet k6)
    have N6:Box (∀ x,x∈F6→w.heap.size≤x):=hid fun x hx=>Nat.le_trans KF.o.size (n6 x hx)
    clear m6 k6 n6 RN KF
    go_wp2_with fail
    go_loopw [8,9] (fun iv _ wr=>∃ (k:Nat) (m:Ma) (F:List Nat),k≤N∧iv=.int .i64 (k:Int)∧Box (Q4 wr mp P m F)∧Box (Inv P m)∧Box (za [] w wr)∧Box (∀ x,x∈F→w.heap.size≤x)∧Box (R=Zi P (N - k) m)) (fun iv _ _=>N - (intOf iv).toNat)
    case atStart=>exact ⟨0,m0,F6,by omega,rfl,M6,I0,K6,N6,HR⟩
    case round=>
     obtain ⟨k,m,F,hk2,rfl,HM,HI,HK,HF,HE⟩:=hrel
     clear M6 I0 K6 N6 HR
     by_cases hlt9:k<N
     ·have hlt8:(k:Int)<(60:Int) * ((n:Int)+3):=by omega
      go_wp2_with fail
      refine (Zu W.o HI.o SM.o HM.o).mono ?_
      rintro e w7 ⟨F2,rfl,m7,k7,n7⟩
      have M7:=hid m7
      have K7:=hid (HK.o.step9 k7 HF.o)
      have N7:Box (∀ x,x∈F2→w.heap.size≤x):=hid (n7.up9 HK.o HF.o)
      have I7:=hid (HI.o.step W.o)
      have E7:Box (R=if (zS P m).1=0 then Zi P (N - (k+1)) (zS P m).2 else zS P m):=hid (by
       have:=HE.o
       rw[show N - k=(N - (k+1))+1 by omega,Zi] at this
       exact this)
      clear m7 k7 n7 HM HI HK HF HE
      generalize zS P m=r at *
      obtain ⟨y,m'⟩:=r
      have I7:Box (Inv P m'):=I7
      have M7:Box (Q4 w7 mp P m' F2):=M7
      by_cases hy:y=0
      ·subst hy
       have E8:Box (R=Zi P (N - (k+1)) m'):=hid (by rw[E7.o];exact if_pos rfl)
       clear E7
       go_wp2_with fail
       go_roundw
       case rel=>exact ⟨k+1,m',F2,by omega,by go_num,M7,I7,K7,N7,E8⟩
       case measure=>simp[intOf];omega
      ·have E8:R=(y,m'):=by rw[E7.o];exact if_neg hy
       have B1:=B1.o
       have B2:=B2.o
       have B3:=B3.o
       rw[E8] at B1 B2 B3
       have B1:y=6:=B1
       have C2:Box (zhP P m'.top.f m'.top.b m'.top.i=(n:Int)+1):=hid B2
       have C3:Box (m'.bot.length=59):=hid B3
       subst B1
       clear E7 E8 B2 B3 hy
       go_wp2_with fail
       refine (zcS M7.o).mono ?_
       rintro e wa ⟨rfl,ka⟩
       have MA:=hid (M7.o.quiet ka)
       have KA:=hid (K7.o.quiet ka)
       clear ka M7 K7
       rw[C3.o]
       go_wp2_with fail
       refine (zj8 I7.o SM.o MA.o).mono ?_
       rintro e wb ⟨rfl,kb⟩
       have KB:=hid (KA.o.quiet kb)
       clear kb MA KA
       rw[C2.o]
       go_wp2_with fail
       go_ret
       exact ⟨rfl,KB.o⟩
     ·exfalso
      obtain rfl:k=N:=by omega
      have E8:=HE.o
      rw[Nat.sub_self] at E8
      have:=B1.o
      rw[E8] at this
      exact absurd this (by show (0:Int)≠6;decide)
theorem semDeep_walk(n:Int)(w:World)(hg:zbq w)(hT:jb w)(_:b64 n):Calls Tryz.prog 15 #[.int .i64 n] w fun e w'=>e=.returned (.bool true)∧za [] w w':=by
 by_cases h:n<0∨20<n
 ·exact semDeep_out n w hg hT h
 ·obtain ⟨k,rfl⟩:∃ k:Nat,n=(k:Int):=⟨n.toNat,by omega⟩
  exact semDeep_in k w hg hT (by omega)
end Go.Proofs.YtgmbkiagdhjpnaaGreatDoor
