/-
  NodesApart, the walk.
-/
import Derived.Test.YthflgjkmbakedaaGreatDoorAQApt
import Derived.Test.YthflgjkmbakedaaGreatDoorA08
namespace Go.Proofs.YthflgjkmbakedaaGreatDoor
open Go.RowKit
theorem begN_mono{P:Pr8}:∀ {k k':Nat},k≤k'→jv P k≤jv P k'
 | k,0,h=>by rw[show k=0 by omega];exact Nat.le_refl _
 | k,k'+1,h=>by
  by_cases e:k=k'+1
  ·rw[e];exact Nat.le_refl _
  ·have:=begN_mono (P:=P) (show k≤k' by omega)
   show _≤jv P k'+_
   omega
theorem under_bls:Tryz.prog.underlying 95=some (.slice 4):=by kernel_rfl
theorem info_bl:Tryz.prog.info? 4=some Tryz.t4:=by kernel_rfl
theorem zero_bl:Tryz.t4.zero=some (.bool false):=by kernel_rfl
theorem size_bl:Tryz.t4.size=1:=by kernel_rfl
theorem bytes_bl:Tryz.t4.bytes=1:=by kernel_rfl
theorem run_bls(n:Nat)(hn:n≤1000000)(w:World):(Instr.makeSlice 95 (.int .i64 (n:Int)) (.int .i64 (n:Int))).run Tryz.prog w=.ok (.slice (some ⟨w.heap.size,0,none⟩) n n) (w.alloc (.cells (madeCells #[.bool false] (n * 1)) 4)):=by
 have:=run_make (P:=Tryz.prog) w 95 4 Tryz.t4 (.bool false) under_bls info_bl zero_bl .i64 .i64 n n (by omega) (by omega) (by rw[bytes_bl];omega) (by omega)
 rw[size_bl,Int.toNat_natCast] at this
 exact this
theorem nmade_get(Z:Array Value)(n j i:Nat)(hj:j<n)(hi:i<Z.size):(madeCells Z (n * Z.size))[j * Z.size+i]? = Z[i]? := by
 have hlt:j * Z.size+i<n * Z.size:=by
  have h1:(j+1) * Z.size≤n * Z.size:=Nat.mul_le_mul_right _ hj
  rw[Nat.add_mul] at h1
  omega
 unfold madeCells
 rw[Array.getElem?_map,Array.getElem?_eq_getElem (by simpa using hlt)]
 simp only[Array.getElem_range,Option.map_some]
 rw[Nat.add_comm,Nat.add_mul_mod_self_right,Nat.mod_eq_of_lt hi,Array.getElem?_eq_getElem hi,getElem!_pos Z i hi]
theorem made_bls(L:Nat):(madeCells #[.bool false] (L * 1)).toList=seenV L 0:=by
 apply List.ext_getElem?
 intro i
 by_cases hi:i<L
 ·rw[seenV_at hi,decide_eq_false (Nat.not_lt_zero i),Array.getElem?_toList]
  have:=nmade_get (#[.bool false]:Array Value) L i 0 hi (by decide)
  rw[show i * (#[.bool false]:Array Value).size+0=i by show i * 1+0=i;omega] at this
  exact this
 ·rw[List.getElem?_eq_none (by simp[madeCells];omega),List.getElem?_eq_none (by rw[seenV_len];omega)]
set_option maxRecDepth 20000 in
theorem nodesApart_nil(w:World)(hg:zeP w)(hT:Ze w):Calls Tryz.prog 9 #[.pointer none] w fun e w'=>e=.returned (.bool true)∧zc [] w w':=by
 have HG:=hid hg
 have HT:=hid hT
 clear hg hT
 go_enter Tryz.func9,Tryz.ntmps9
 go_wp2_with fail
 refine (zal w HG.o HT.o).mono ?_
 rintro e w1 ⟨rfl,k1⟩
 have K1:=hid k1
 clear k1
 go_wp2_with fail
 refine (zff w1).mono ?_
 rintro e w2 ⟨rfl,k2⟩
 have K2:=hid (K1.o.quiet k2)
 clear k2
 go_wp2_with fail
 go_ret
 exact ⟨rfl,K2.o⟩
set_option maxRecDepth 20000 in
set_option maxHeartbeats 8000000 in
theorem nodesApart_any{w:World}{pp po:Nat}{P:Pr8}(h:PrC w pp po P)(hg:zeP w)(hT:Ze w):Calls Tryz.prog 9 #[.pointer (some ⟨pp,po,none⟩)] w fun e w'=>e=.returned (.bool true)∧zc [] w w':=by
 have HG:=hid hg
 have HT:=hid hT
 have HP:=hid h
 clear h hg hT
 go_enter Tryz.func9,Tryz.ntmps9
 go_wp2_with fail
 refine (zal w HG.o HT.o).mono ?_
 rintro e w1 ⟨rfl,k1⟩
 have K1:=hid k1
 clear k1
 go_wp2_with fail
 refine (zeU (PrC.stays _ _ _ _ _ K1.o HP.o)).mono ?_
 rintro e w2 ⟨s,rfl,hs, -,k2⟩
 have K2:=hid (K1.o.quiet k2)
 clear k2 K1
 cases s with
 | false=>
  clear hs
  go_wp2_with fail
  go_ret
  exact ⟨rfl,K2.o⟩
 | true=>
  obtain ⟨-,hsm,hok⟩:=hs rfl
  have OK:=hid (zlY hok hsm)
  clear hs hsm hok
  go_wp2_with fail
  refine (zd4 (PrC.stays _ _ _ _ _ K2.o HP.o) (HG.o.quiet K2.o) (HT.o.kept K2.o (by simp)) OK.o.ok OK.o.sn OK.o.s10).mono ?_
  rintro e w3 ⟨tb,rfl,t3,k3⟩
  have T3:=hid t3
  have K3:=hid (K2.o.quiet k3)
  clear t3 k3 K2
  have HPW:=hid (PrC.stays _ _ _ _ _ K3.o HP.o)
  have C1:=hid fun (w':World) (k:zc [] w3 w')=>zdL (T3.o.quiet k)
  have CT:=hid fun (w':World) (k:zc [] w3 w')=>za2 (T3.o.quiet k) OK.o.sn
  have CR:=hid fun (w':World) (k:zc [] w3 w') (f r:Int)=>zaN (T3.o.quiet k) OK.o.sn f r
  have CE:=hid fun (w':World) (k:zc [] w3 w') (f:Int)=>zb2 (T3.o.quiet k) OK.o.sn f
  have CC:=hid fun (w':World) (k:zc [] w3 w') (f:Int)=>zi1 (T3.o.quiet k) OK.o.sn f
  have CL:=hid fun (w':World) (k:zc [] w3 w') (s f:Int)=>zfu (T3.o.quiet k) OK.o.sn s f
  have CP:=hid fun (w':World) (k:zc [] w3 w')=>Z1 (PrC.stays _ _ _ _ _ k HPW.o) OK.o.s8
  have CD:=hid fun (w':World) (k:zc [] w3 w') (f b i:Nat) (hp:Zh P f b i)=>zjk (PrC.stays _ _ _ _ _ k HPW.o) OK.o.s8 f b i hp
  obtain ⟨L,hL⟩:∃ L,L=zaj P:=⟨_,rfl⟩
  have HL:=hid hL
  have hLb:L≤150204:=by rw[hL];exact OK.o.sn.nodes (Nat.le_refl _)
  rw[← hL] at C1
  clear hL
  go_wp2_with fail
  refine (C1.o _ (zc.refl _ _)).mono ?_
  rintro e w4 ⟨rfl,rfl⟩
  have mk:=run_bls L (by omega) w4
  go_upto_region 10 with fail
  have e7:(madeCells #[.bool false] (L * 1)).toList=seenV L 0:=made_bls L
  rw[Nat.mul_one] at e7 mk
  have SE:Box (SeP (((w4.alloc (.cells (madeCells #[.bool false] L) 4)).alloc (.cells #[.slice (some ⟨w4.heap.size,0,none⟩) L L] 95)).alloc (.cells #[.int .i64 0] 3)) w4.heap.size (w4.heap.size+1) (w4.heap.size+1+1) w4.heap.size L 0):=hid (by
   have g1:=zh (w4.alloc (.cells (madeCells #[.bool false] L) 4)) (.cells #[.slice (some ⟨w4.heap.size,0,none⟩) L L] 95)
   have g2:=zh ((w4.alloc (.cells (madeCells #[.bool false] L) 4)).alloc (.cells #[.slice (some ⟨w4.heap.size,0,none⟩) L L] 95)) (.cells #[.int .i64 0] 3)
   rw[World.size_alloc] at g1 g2
   rw[World.size_alloc] at g2
   refine ⟨ze g1 (zc.alloc _ _ _),g2,?_⟩
   have o1:=World.ownsRow_lit (base:=w4.heap.size) (e:=4) (size:=1) w4 (madeCells #[.bool false] L) L (Nat.le_refl _) (by unfold maxLen;omega) (by simp[madeCells])
   rw[e7] at o1
   exact zj (zj o1 (zc.alloc [] _ _) (fun _ _=>by simp)) (zc.alloc [] _ _) (fun _ _=>by simp))
  have KE:Box (zc [] w4 (((w4.alloc (.cells (madeCells #[.bool false] L) 4)).alloc (.cells #[.slice (some ⟨w4.heap.size,0,none⟩) L L] 95)).alloc (.cells #[.int .i64 0] 3))):=hid (((zc.alloc _ _ _).quiet (zc.alloc _ _ _)).quiet (zc.alloc _ _ _))
  have H5:Box (w4.heap.size≤w4.heap.size+1):=hid (by omega)
  have H6:Box (w4.heap.size≤w4.heap.size+1+1):=hid (by omega)
  have HSB:Box (w4.heap.size≤w4.heap.size):=hid (Nat.le_refl _)
  clear e7 mk
  generalize ((w4.alloc (.cells (madeCells #[.bool false] L) 4)).alloc (.cells #[.slice (some ⟨w4.heap.size,0,none⟩) L L] 95)).alloc (.cells #[.int .i64 0] 3)=w5 at *
  obtain ⟨B,hB⟩:∃ B,B=w4.heap.size:=⟨_,rfl⟩
  have HBE:=hid hB
  rw[← hB] at SE H5 H6 HSB ⊢
  clear hB
  obtain ⟨sb,hsb⟩:∃ sb,sb=B:=⟨_,rfl⟩
  have SE2:Box (SeP w5 B (B+1) (B+1+1) sb L 0):=hid (by rw[hsb];exact SE.o)
  rw[← hsb] at HSB
  have HSB2:Box (B≤sb):=hid (by rw[hsb];exact Nat.le_refl _)
  clear SE hsb HSB
  generalize hb5:B+1=b5 at *
  generalize hb6:b5+1=b6 at *
  have HB5:Box (B≤b5):=H5
  have HB6:Box (B≤b6):=H6
  clear hb5 hb6 H5 H6
  have KPUT:Box (∀ {wa wb:World},zc [] w4 wa→zc [b6,sb] wa wb→zc [] w4 wb):=hid fun {wa wb} ka kb=>ka.trans kb fun x hx hl=>by
   have h1:=HB6.o
   have h2:=HSB2.o
   have h3:=HBE.o
   simp at hx
   rcases hx with rfl | rfl <;> omega
  have HL0:=HL.o
  obtain ⟨fa,fcp,H⟩:=HPW.o.fns
  have HF:=hid H
  obtain ⟨N,hNN⟩:∃ N,N=P.funcs.length:=⟨_,rfl⟩
  have HN:=hid hNN
  have hN12:N≤12:=by rw[hNN];exact OK.o.sn.fn
  have H4:Box (∀ w',zc [] w4 w'→w'.cell? ⟨pp,po+4,none⟩=some (.slice fa N fcp)):=hid (by
   have h4':=H.cell
   rw[← hNN] at h4'
   intro w' k
   exact za k h4')
  have hnode:L=jv P N+zjR (qG P):=by rw[HL0,hNN];exact zcy P _
  have HNL:Box (∀ k,k≤N→jv P k≤L):=hid fun k hk=>by
   have:=begN_mono (P:=P) hk
   omega
  obtain ⟨n,hn9⟩:∃ n,n=(qG P).length:=⟨_,rfl⟩
  have HNS:=hid hn9
  have hn150:n≤150:=by rw[hn9];exact OK.o.sn.st
  have HNO:Box (jv P N=ndS P 0):=hid (by rw[hNN];rfl)
  have HNE:Box (ndS P n=L):=hid (by rw[hn9,zjG];exact HL0.symm)
  clear H hNN hn9 hnode HL0
  have S0:Box (SeP w5 B b5 b6 sb L (jv P 0)):=SE2
  have q4:=H4.o _ KE.o
  clear SE2
  go_wp2_with fail
  clear q4
  go_loopw [8] (fun kv wr=>∃ k:Nat,k≤N∧kv=.int .i64 (k:Int)∧Box (SeP wr B b5 b6 sb L (jv P k))∧Box (zc [] w4 wr)) (fun kv _=>N - (intOf kv).toNat)
  case atStart=>exact ⟨0,by omega,rfl,S0,KE⟩
  case round=>
   obtain ⟨k,hk,rfl,HSE,HK⟩:=hrel
   clear S0 KE
   have q4:=H4.o _ HK.o
   by_cases hlt:k<N
   ·have hltk:(k:Int)<(N:Int):=by omega
    have ef:P.funcs[k]? = some (zf P k):=zg (by rw[← HN.o];exact hlt)
    obtain ⟨fb,fo,rfl,FC⟩:=HF.o.rows.at ef
    obtain ⟨ra,rcp,g30,grr, -, -⟩:=FC.c1
    have hrl:=OK.o.sn.rg k (by rw[← HN.o];exact hlt)
    have G3:Box (∀ w',zc [] w4 w'→w'.cell? ⟨fb,fo+k * 3+1,none⟩=some (.slice ra (zf P k).regs.length rcp)):=hid fun w' kk=>za kk g30
    have hf9:isF P (k:Int)=true:=by
     unfold isF
     rw[decide_eq_true (show (0:Int)≤(k:Int) by omega),decide_eq_true (show (k:Int)<(P.funcs.length:Int) by have:=HN.o;omega)]
     rfl
    have HRG:Box (∀ j:Nat,j<(zf P k).regs.length→zcF P (k:Int) (j:Int)=((jv P k+j:Nat):Int)):=hid fun j hj=>by
     unfold zcF
     rw[if_pos ⟨hf9,by omega,by rw[Int.toNat_natCast];omega⟩,Int.toNat_natCast]
     omega
    have HRT:Box (zcW P (k:Int)=((jv P k+(zf P k).regs.length:Nat):Int)):=hid (by
     unfold zcW
     rw[if_pos hf9,Int.toNat_natCast]
     omega)
    have HB1:=hid (show jv P k+(zf P k).regs.length+1=jv P (k+1) from rfl)
    have hLk:=HNL.o (k+1) (by omega)
    rw[← HB1.o] at hLk
    clear FC g30 grr ef hf9
    generalize (zf P k).regs.length=rl at *
    have SJ:Box (SeP wr B b5 b6 sb L (jv P k+0)):=HSE
    go_wp2_with fail
    clear q4 HSE
    go_loopw [9] (fun kv wr=>∃ j:Nat,j≤rl∧kv=.int .i64 (j:Int)∧Box (SeP wr B b5 b6 sb L (jv P k+j))∧Box (zc [] w4 wr)) (fun kv _=>rl - (intOf kv).toNat)
    case atStart=>exact ⟨0,by omega,rfl,SJ,HK⟩
    case round=>
     obtain ⟨j,hj,rfl,HSE,HK2⟩:=hrel
     clear HK SJ
     have q4:=H4.o _ HK2.o
     have g3:=G3.o _ HK2.o
     by_cases hlj:j<rl
     ·have hltj:(j:Int)<(rl:Int):=by omega
      have hc:=CR.o _ HK2.o (k:Int) (j:Int)
      rw[HRG.o j hlj] at hc
      have HC:=hid hc
      clear hc
      go_wp2_with fail
      refine HC.o.mono ?_
      rintro e wa ⟨rfl,ka⟩
      have HSA:=hid (HSE.o.quiet ka)
      have KA:=hid (HK2.o.quiet ka)
      clear ka HSE HK2 q4 g3 HC
      generalize hm:jv P k+j=m at *
      have hmL:m<L:=by omega
      go_wp2_with fail
      refine (put_any HSA.o hmL (by omega)).mono ?_
      rintro e wb ⟨rfl,sb2,kb⟩
      have HSB:=hid sb2
      have KB:=hid (KPUT.o KA.o kb)
      clear sb2 kb HSA KA
      go_wp2_with fail
      go_roundw
      case rel=>exact ⟨j+1,by omega,by go_num,hid (by rw[← Nat.add_assoc,hm];exact HSB.o),KB⟩
      case measure=>simp[intOf];omega
     ·obtain rfl:j=rl:=by omega
      have hltj:¬ (j:Int)<(j:Int):=by omega
      have hc:=CE.o _ HK2.o (k:Int)
      rw[HRT.o] at hc
      have HC:=hid hc
      clear hc
      go_wp2_with fail
      refine HC.o.mono ?_
      rintro e wa ⟨rfl,rfl⟩
      clear q4 g3 HC
      generalize hm:jv P k+j=m at *
      have hmL:m<L:=by omega
      go_wp2_with fail
      refine (put_any HSE.o hmL (by omega)).mono ?_
      rintro e wb ⟨rfl,sb2,kb⟩
      have HSB:=hid sb2
      have KB:=hid (KPUT.o HK2.o kb)
      clear sb2 kb HSE HK2
      go_wp2_with fail
      go_roundw
      case rel=>exact ⟨k+1,by omega,by go_num,hid (by rw[← HB1.o];exact HSB.o),KB⟩
      case measure=>simp[intOf];omega
   ·obtain rfl:k=N:=by omega
    have hlt':¬ (k:Int)<(k:Int):=by omega
    rename World=>wq
    go_wp2_with fail
    clear q4
    refine (CT.o _ HK.o).mono ?_
    rintro e w6 ⟨k6,v,rfl,ho⟩
    obtain ⟨rs,rcp,hve,hvc⟩:∃ a cp,v=.slice a n cp∧∀ j s,(qG P)[j]? = some s→∃ b,a=some ⟨b,0,none⟩∧w6.cell? ⟨b,j,none⟩=some (.int .i64 (s.p:Int))∧b≠b6∧b≠sb:=by
     have hlt9:=ho.lt
     rw[zgB] at ho
     obtain ⟨a,cp,e1,e2⟩:=QY ho
     have hl:(stP P).length=n:=by unfold stP;rw[List.length_map];exact HNS.o.symm
     refine ⟨a,cp,by rw[e1,hl],fun j s hs=> ?_⟩
     obtain ⟨b,e3,e4⟩:=e2 j (s.p:Int) (by unfold stP;rw[List.map_map,List.getElem?_map,hs];rfl)
     have e5:=(hlt9 b (by rw[e1,e3];rfl)).1
     have e6:=zQ HSE.o.h6
     have e7:sb<wq.heap.size:=(HSE.o.own.lt sb rfl).2
     exact ⟨b,e3,e4,by omega,by omega⟩
    subst hve
    have HV:=hid hvc
    have S6:Box (SeP w6 B b5 b6 sb L (ndS P 0)):=hid (by rw[← HNO.o];exact HSE.o.quiet k6)
    have K6:=hid (HK.o.quiet k6)
    clear k6 ho hvc HSE HK
    go_wp2_with fail
    go_loopw [11] (fun kv wr=>∃ j:Nat,j≤n∧kv=.int .i64 (j:Int)∧Box (SeP wr B b5 b6 sb L (ndS P j))∧Box (zc [] w4 wr)∧Box (zc [b6,sb] w6 wr)) (fun kv _=>n - (intOf kv).toNat)
    case atStart=>exact ⟨0,by omega,rfl,S6,K6,hid (zc.refl _ _)⟩
    case round=>
     obtain ⟨j,hj,rfl,HSE,HK,HK6⟩:=hrel
     clear S6 K6
     by_cases hlj:j<n
     ·have hltj:(j:Int)<(n:Int):=by omega
      obtain ⟨s,hs⟩:∃ s,(qG P)[j]? = some s:=⟨_,List.getElem?_eq_getElem (by rw[← HNS.o];exact hlj)⟩
      obtain ⟨vb,rfl,v0,vn6,vns⟩:=HV.o j s hs
      have VC:Box (∀ {wa:World},zc [b6,sb] w6 wa→wa.cell? ⟨vb,j,none⟩=some (.int .i64 (s.p:Int))):=hid fun {wa} ka=>(ka.cell (p:=⟨vb,j,none⟩) (block_lt_of_cell v0) (by simp[vn6,vns])).trans v0
      have hmem:=List.mem_of_getElem? hs
      have hok:=Jx P _ s hmem
      have hptl:=hok.lt
      obtain ⟨pf,pb,pi,hpt⟩:∃ f b i,(pts P)[s.p]? = some (f,b,i):=⟨_,_,_,List.getElem?_eq_getElem hptl⟩
      have hq:ZT P s.p=(pf,pb,pi):=by
       unfold ZT
       rw[List.getD_eq_getElem?_getD,hpt]
       rfl
      have hmk:=hok.is
      rw[hq] at hmk
      have hip:=jQ.1 (List.mem_of_getElem? hpt)
      have HPT:=hid hpt
      have HCD:Box (∀ w',zc [] w4 w'→Calls Tryz.prog 50 #[.pointer (some ⟨pp,po,none⟩),.agg #[.int .i64 (pf:Int),.int .i64 (pb:Int),.int .i64 (pi:Int)]] w' fun e w''=>zc [] w' w''∧∃ d x y z sa sn sc,e=.returned (.tuple #[.agg #[.int .i64 5,.int .i64 d,.int .i64 x,.int .i64 y,.int .i64 z,.slice sa sn sc],.bool true])):=hid fun w' kk=>(CD.o w' kk pf pb pi hip).mono fun e w'' ⟨k',hcs⟩=>by
       rcases hcs with ⟨_,x,y,z,sa,sn,sc,e1⟩ | ⟨h1,_⟩ | ⟨h1,_⟩
       ·exact ⟨k',_,x,y,z,sa,sn,sc,e1⟩
       ·rw[hmk] at h1;cases h1
       ·rw[hmk] at h1;cases h1
      have MO:=zfZ OK.o.W hip hmk
      have hsr:s.r=mkR P (pf,pb,pi):=by rw[hok.r,hq]
      obtain ⟨d,hd⟩:∃ d:Nat,s.r=(d:Int):=⟨s.r.toNat,by have:=MO.r0;omega⟩
      have hdl:d<P.recs.length:=by have:=MO.r1;omega
      have er:=za5 (P:=P) (s:=s) hmem
      rw[hd] at er
      have HCC:Box (∀ w',zc [] w4 w'→Calls Tryz.prog 44 #[.pointer (some ⟨tb,0,none⟩),.int .i64 (s.p:Int)] w' fun e w''=>e=.returned (.int .i64 (d:Int))∧zc [] w' w''):=hid fun w' kk=>by
       have:=CC.o w' kk (s.p:Int)
       rw[er] at this
       exact this
      have hnd:=zlN hs
      have HN1:=hid hnd.1
      have HN2:=hid hnd.2
      have HCL:Box (∀ i:Nat,i<s.n→Qw P (s.p:Int) (i:Int)=((s.c+i:Nat):Int)):=hid fun i hi=>by
       rw[zh0 hmem (by omega) (by omega)]
       omega
      have hcb:s.c+s.n≤L:=by
       rw[HL.o]
       exact hok.c
      obtain ⟨xa,xcp,x0,xr, -, -⟩:=HPW.o.c0
      obtain ⟨xb,xo,rfl,xs⟩:=xr.at (zg (d:=[]) hdl)
      obtain ⟨ya,ycp,y0, -, -, -⟩:=xs
      have e9:(P.recs.getD d []).length=s.n:=by rw[hok.n,hd];unfold zcx;rw[Int.toNat_natCast]
      rw[e9,Nat.mul_one] at y0
      have hrn:(d:Int)<(P.recs.length:Int):=by omega
      have X0:Box (∀ {wa:World},zc [] w4 wa→wa.cell? ⟨pp,po,none⟩=some (.slice (some ⟨xb,xo,none⟩) P.recs.length xcp)):=hid fun {wa} ka=>za ka x0
      have X1:Box (∀ {wa:World},zc [] w4 wa→wa.cell? ⟨xb,xo+d,none⟩=some (.slice ya s.n ycp)):=hid fun {wa} ka=>za ka y0
      have hsn:s.n≤1000:=by
       rw[hok.n]
       exact OK.o.sn.fl _
      have hptI:(s.p:Int)<((pts P).length:Int):=by omega
      rw[HN1.o] at HSE
      clear hs v0 hmem hok hq hmk hip MO hsr hd hdl er hnd x0 xr y0 e9 hpt
      have hM150:(pts P).length≤150:=OK.o.s8.pt
      go_upto_region 24 with fail
      go_cut [12,13] (fun t12 t13 wz=>∃ q d0 x y z sa sn sc,t12=.pointer (some ⟨q,0,none⟩)∧t13=.bool true∧Box (wz.heap[q]? = some (.cells #[.int .i64 5,.int .i64 d0,.int .i64 x,.int .i64 y,.int .i64 z,.slice sa sn sc] 54 (0,0)))∧Box (zc [] wr wz))
      case first=>
       have kr:zc [] wr wr.drew:=zc.drew _ _
       have hv0:=VC.o HK6.o
       have hvA:=za ((zc.alloc [] wr (.cells #[.int .i64 0,.int .i64 0,.int .i64 0,.int .i64 0,.int .i64 0,.slice none 0 0] 54)).quiet (zc.drew [] _)) hv0
       have hvn0:=World.new_ne _ _ hv0
       dsimp only at hvn0
       have hv:=VC.o (HK6.o.quiet kr)
       have hvn:=World.new_ne _ _ hv
       dsimp only at hvn
       go_region_with (first
        | (go_at_call 51;refine (CP.o _ (HK.o.quiet kr)).mono ?_;rintro e wa ⟨pa,pcp,rfl,hrow,ka⟩;have kr:=kr.quiet ka;have hv:=VC.o (HK6.o.quiet kr);have hw:=za (zc.alloc [] _ (.cells #[.int .i64 0,.int .i64 0,.int .i64 0,.int .i64 0,.int .i64 0,.slice none 0 0] 54)) hv;have hvn:=World.new_ne _ _ hv;dsimp only at hvn;obtain ⟨rb,ro,rfl,hc⟩:=hrow.at HPT.o;have l0:=hc.c0;have l1:=hc.c1;have l2:=hc.c2;dsimp only at l0 l1 l2;have m0:=za (zc.alloc [] wa (.cells #[.int .i64 0,.int .i64 0,.int .i64 0,.int .i64 0,.int .i64 0,.slice none 0 0] 54)) l0;have m1:=za (zc.alloc [] wa (.cells #[.int .i64 0,.int .i64 0,.int .i64 0,.int .i64 0,.int .i64 0,.slice none 0 0] 54)) l1;have m2:=za (zc.alloc [] wa (.cells #[.int .i64 0,.int .i64 0,.int .i64 0,.int .i64 0,.int .i64 0,.slice none 0 0] 54)) l2;clear hrow ka hc)
        | (go_at_call 51;refine (CP.o _ (HK.o.quiet (kr.quiet (zc.alloc [] _ (.cells #[.int .i64 0,.int .i64 0,.int .i64 0,.int .i64 0,.int .i64 0,.slice none 0 0] 54))))).mono ?_;rintro e wa ⟨pa,pcp,rfl,hrow,ka⟩;have hz:wa.heap[wr.heap.size]? = some (.cells #[.int .i64 0,.int .i64 0,.int .i64 0,.int .i64 0,.int .i64 0,.slice none 0 0] 54 (0,0)):=ze (zh wr.drew (.cells #[.int .i64 0,.int .i64 0,.int .i64 0,.int .i64 0,.int .i64 0,.slice none 0 0] 54)) ka;have hqn:wr.heap.size≤wr.heap.size:=Nat.le_refl _;have kr:=(kr.quiet (zc.alloc [] _ (.cells #[.int .i64 0,.int .i64 0,.int .i64 0,.int .i64 0,.int .i64 0,.slice none 0 0] 54))).quiet ka;have hv:=VC.o (HK6.o.quiet kr);have hw:=za (zc.alloc [] _ (.cells #[.int .i64 0,.int .i64 0,.int .i64 0,.int .i64 0,.int .i64 0,.slice none 0 0] 54)) hv;have hvn:=World.new_ne _ _ hv;dsimp only at hvn;obtain ⟨rb,ro,rfl,hc⟩:=hrow.at HPT.o;have l0:=hc.c0;have l1:=hc.c1;have l2:=hc.c2;dsimp only at l0 l1 l2;have m0:=za (zc.alloc [] wa (.cells #[.int .i64 0,.int .i64 0,.int .i64 0,.int .i64 0,.int .i64 0,.slice none 0 0] 54)) l0;have m1:=za (zc.alloc [] wa (.cells #[.int .i64 0,.int .i64 0,.int .i64 0,.int .i64 0,.int .i64 0,.slice none 0 0] 54)) l1;have m2:=za (zc.alloc [] wa (.cells #[.int .i64 0,.int .i64 0,.int .i64 0,.int .i64 0,.int .i64 0,.slice none 0 0] 54)) l2;clear hrow ka hc)
        | (go_at_call 50;refine (HCD.o _ (HK.o.quiet kr)).mono ?_;rintro e wb ⟨kb,d0,x,y,z,sa,sn,sc,rfl⟩;have hz:=ze hz kb;have z0:=zd hz 0;have z1:=zd hz 1;have z2:=zd hz 2;have z3:=zd hz 3;have z4:=zd hz 4;have z5:=zd hz 5;have y0:=zi hz 0;have y1:=zi hz 1;have y2:=zi hz 2;have y3:=zi hz 3;have y4:=zi hz 4;have y5:=zi hz 5;have kr:=kr.quiet kb;have hv:=VC.o (HK6.o.quiet kr);have hw:=za (zc.alloc [] _ (.cells #[.int .i64 0,.int .i64 0,.int .i64 0,.int .i64 0,.int .i64 0,.slice none 0 0] 54)) hv;have hvn:=World.new_ne _ _ hv;dsimp only at hvn)
        | (go_at_call 50;refine (HCD.o _ (HK.o.quiet kr)).mono ?_;rintro e wb ⟨kb,d0,x,y,z,sa,sn,sc,rfl⟩;have kr:=kr.quiet kb;have hv:=VC.o (HK6.o.quiet kr);have hw:=za (zc.alloc [] _ (.cells #[.int .i64 0,.int .i64 0,.int .i64 0,.int .i64 0,.int .i64 0,.slice none 0 0] 54)) hv;have hvn:=World.new_ne _ _ hv;dsimp only at hvn)
        | (go_at_call 50;refine (HCD.o _ (HK.o.quiet (kr.quiet (zc.alloc [] _ (.cells #[.int .i64 0,.int .i64 0,.int .i64 0,.int .i64 0,.int .i64 0,.slice none 0 0] 54))))).mono ?_;rintro e wb ⟨kb,d0,x,y,z,sa,sn,sc,rfl⟩;have hz:=ze (zh _ (.cells #[.int .i64 0,.int .i64 0,.int .i64 0,.int .i64 0,.int .i64 0,.slice none 0 0] 54)) kb;have hqn:=kr.size;have z0:=zd hz 0;have z1:=zd hz 1;have z2:=zd hz 2;have z3:=zd hz 3;have z4:=zd hz 4;have z5:=zd hz 5;have y0:=zi hz 0;have y1:=zi hz 1;have y2:=zi hz 2;have y3:=zi hz 3;have y4:=zi hz 4;have y5:=zi hz 5;have kr:=(kr.quiet (zc.alloc [] _ (.cells #[.int .i64 0,.int .i64 0,.int .i64 0,.int .i64 0,.int .i64 0,.slice none 0 0] 54))).quiet kb;have hv:=VC.o (HK6.o.quiet kr);have hw:=za (zc.alloc [] _ (.cells #[.int .i64 0,.int .i64 0,.int .i64 0,.int .i64 0,.int .i64 0,.slice none 0 0] 54)) hv;have hvn:=World.new_ne _ _ hv;dsimp only at hvn))
       all_goals
        go_wp2_with fail
        go_meet
        first
        | exact ⟨_,d0,x,y,z,sa,sn,sc,rfl,rfl,hid (znN hz _ _ _ _ _ _),hid (kr.fresh (zjv _ _ _ _ _ _ _ _) (fun x hx=>by rw[List.mem_singleton.1 hx];exact hqn))⟩
        | exact ⟨_,d0,x,y,z,sa,sn,sc,rfl,rfl,hid (zh _ _),hid (kr.quiet (zc.alloc _ _ _))⟩
      case rest=>
       obtain ⟨q,d0,x,y,z,sa,sn,sc,rfl,rfl,HQ,KQ⟩:=hcut
       have HSC:Box (SeP wc B b5 b6 sb L (s.c+0)):=hid (HSE.o.quiet KQ.o)
       have HKC:=hid (HK.o.quiet KQ.o)
       have HK6C:=hid (HK6.o.quiet KQ.o)
       have n0:=zd HQ.o 0
       clear HSE HK HK6 KQ
       go_wp2_with fail
       clear n0 HQ
       go_loopw [14] (fun kv wr=>∃ i:Nat,i≤s.n∧kv=.int .i64 (i:Int)∧Box (SeP wr B b5 b6 sb L (s.c+i))∧Box (zc [] w4 wr)∧Box (zc [b6,sb] w6 wr)) (fun kv _=>s.n - (intOf kv).toNat)
       case atStart=>exact ⟨0,by omega,rfl,HSC,HKC,HK6C⟩
       case round=>
        obtain ⟨i,hi,rfl,HSE,HK,HK6⟩:=hrel
        clear HSC HKC HK6C
        go_upto_region 28 with fail
        go_cut [104] (fun c wz=>c=.bool (decide (i<s.n))∧Box (zc [] wr wz))
        case first=>
         have kr:zc [] wr wr.drew:=zc.drew _ _
         have hv:=VC.o (HK6.o.quiet kr)
         have m0:=X0.o (HK.o.quiet kr)
         have m1:=X1.o (HK.o.quiet kr)
         generalize P.recs.length=rn at *
         go_region_held3 (fun w'=>w'.cell? ⟨vb,j,none⟩=some (.int .i64 (s.p:Int))∧w'.cell? ⟨pp,po,none⟩=some (.slice (some ⟨xb,xo,none⟩) rn xcp)∧w'.cell? ⟨xb,xo+d,none⟩=some (.slice ya s.n ycp)) (go_keep) (first
          | (go_at_call 44;refine (HCC.o _ (HK.o.quiet kr)).mono ?_;rintro e wb ⟨rfl,kb⟩;have kr:=kr.quiet kb;have hv:=VC.o (HK6.o.quiet kr);have m0:=X0.o (HK.o.quiet kr);have m1:=X1.o (HK.o.quiet kr);clear kb))
         all_goals
          go_wp2_with fail
          go_meet
          exact ⟨rfl,hid kr⟩
        case rest=>
         obtain ⟨rfl,KQ⟩:=hcut
         have HSB:=hid (HSE.o.quiet KQ.o)
         have HKC:=hid (HK.o.quiet KQ.o)
         have HK6C:=hid (HK6.o.quiet KQ.o)
         clear HSE HK HK6 KQ
         by_cases hli:i<s.n
         ·have hlti:(i:Int)<(s.n:Int):=by omega
          rw[decide_eq_true hli]
          have hv:=VC.o HK6C.o
          have hc:=CL.o _ HKC.o (s.p:Int) (i:Int)
          rw[HCL.o i hli] at hc
          have HC:=hid hc
          clear hc
          go_wp2_with fail
          refine HC.o.mono ?_
          rintro e wa ⟨rfl,ka⟩
          have HSA:=hid (HSB.o.quiet ka)
          have KA:=hid (HKC.o.quiet ka)
          have KA6:=hid (HK6C.o.quiet ka)
          clear ka HSB HKC HK6C hv HC
          generalize hm:s.c+i=m at *
          have hmL:m<L:=by omega
          go_wp2_with fail
          refine (put_any HSA.o hmL (by omega)).mono ?_
          rintro e wb ⟨rfl,sb2,kb⟩
          have HSB:=hid sb2
          have KB:=hid (KPUT.o KA.o kb)
          have KB6:=hid (KA6.o.step kb)
          clear sb2 kb HSA KA KA6
          go_wp2_with fail
          go_roundw
          case rel=>exact ⟨i+1,by omega,by go_num,hid (by rw[← Nat.add_assoc,hm];exact HSB.o),KB,KB6⟩
          case measure=>simp[intOf];omega
         ·have hie:i=s.n:=by omega
          have hlti:¬ (i:Int)<(s.n:Int):=by omega
          rw[decide_eq_false hli]
          have HSN:Box (SeP wc B b5 b6 sb L (ndS P (j+1))):=hid (by rw[HN2.o, ← hie];exact HSB.o)
          clear hie HSB
          go_wp2_with fail
          go_roundw
          case rel=>exact ⟨j+1,by omega,by go_num,HSN,HKC,HK6C⟩
          case measure=>simp[intOf];omega
     ·obtain rfl:j=n:=by omega
      have hlt':¬ (j:Int)<(j:Int):=by omega
      have HSL:Box (SeP wr B b5 b6 sb L L):=hid (by have:=HSE.o;rw[HNE.o] at this;exact this)
      have p6:=zd HSL.o.h6 0
      clear HSE
      go_wp2_with fail
      go_quiet ((go_at_call 35;exact Calls.quiet_of_same (C1.o _ (HK.o.quiet (zc.drewN _ _ _)))))
      go_wp2_with fail
      go_ret
      exact ⟨by simp,(K3.o.quiet HK.o).quiet (zc.drewN _ _ _)⟩
theorem nodesApart_walk(v:Value)(w:World)(hg:zeP w)(hT:Ze w)(hp:zfX 17592186044416 w v):Calls Tryz.prog 9 #[v] w fun e w'=>e=.returned (.bool true)∧zc [] w w':=by
 rcases hp with rfl | ⟨b',o,P,rfl,h,_⟩
 ·exact nodesApart_nil w hg hT
 ·exact nodesApart_any h hg hT
end Go.Proofs.YthflgjkmbakedaaGreatDoor
