import Derived.Deep.RegionHeldLaw
import Derived.Deep.CutBlock
import Derived.Test.YthflgjkmbakedaaGreatDoorA15

namespace Go.Proofs.YthflgjkmbakedaaGreatDoor
open Go.RowKit
open Go.Value (int pointer agg)
open Go.IntKind (i64)
set_option maxRecDepth 20000
set_option maxHeartbeats 8000000
theorem zgD{w:World}{pb po:Nat}{P:Pr8}(h:PrC w pb po P)(hs:Sm8 P)(f b i:Nat)(hp:Zh P f b i):Calls Tryz.prog 177 #[pointer (some ⟨pb,po,none⟩),ptV f b i] w (zcp w P f b i):=by
 have ka:=zc.alloc [] w (.cells #[int i64 (f:Int),int i64 (b:Int),int i64 (i:Int)] 99);have hq:=zh w (.cells #[int i64 (f:Int),int i64 (b:Int),int i64 (i:Int)] 99);obtain ⟨fa,fcp,HH⟩:=h.fns;obtain ⟨fb,fo,ba,bcp,rfl,B⟩:=HH.at hp.1;obtain ⟨bb,bo,rfl,L⟩:=B.at hp.2.1;obtain ⟨ca,ccp,hcc0,_⟩:=L.c0;have hf:=hp.1;have hb:=hp.2.1;have hi:=hp.2.2;have hM14:=hs.bk f hf;have hc9:=hs.code hf hb;have H4:=hid HH.cell;have H2:=hid B.cell;have h4:=za ka HH.cell;have h2:=za ka B.cell;have hcc:=za ka hcc0;have m1:=za ka L.c1.1;have m2:=za ka L.c2.1;have m3:=za ka L.c3.1;have m4:=za ka L.c4.1;have KA:=hid ka;have HXX:Box (Jb P f b i=if i<(zr (zf P f) b).code.length then [(f,b,i+1)] else QI P f (zbl (zr (zf P f) b))):=hid rfl;obtain ⟨M,hM⟩:∃ M,M=(zf P f).blocks.length:=⟨_,rfl⟩;have HMM:Box (M=(zf P f).blocks.length):=hid hM;rw[← hM] at h2 H2 hb hM14;generalize P.funcs.length=N at *;generalize zr (zf P f) b=x at *;clear h hs hp ka HH B L hcc0 hM;have g0:¬ (f:Int)<0:=by omega
 have g1:¬ (N:Int)≤(f:Int):=by omega
 have g1':(f:Int)<(N:Int):=by omega
 have g2:¬ (b:Int)<0:=by omega
 have g3:¬ (M:Int)≤(b:Int):=by omega
 have g3':(b:Int)<(M:Int):=by omega
 have g4:¬ (i:Int)<0:=by omega
 have g5:¬ (x.code.length:Int)<(i:Int):=by omega
 unfold ptV;go_enter Tryz.func177,Tryz.ntmps177;go_upto_region 1 with fail;generalize w.alloc (.cells #[int i64 (f:Int),int i64 (b:Int),int i64 (i:Int)] 99)=W at *;generalize w.heap.size=q at *;have p0:W.cell? ⟨q,0,none⟩=some (int i64 (f:Int)):=zd hq 0;have p1:W.cell? ⟨q,1,none⟩=some (int i64 (b:Int)):=zd hq 1;have p2:W.cell? ⟨q,2,none⟩=some (int i64 (i:Int)):=zd hq 2;go_quiet (fail);go_wp2_with fail;have HQ2:Box ((W.drewN nq).heap[q]? = some (.cells #[int i64 (f:Int),int i64 (b:Int),int i64 (i:Int)] 99 (0,0))):=hid hq;have K2:=hid (KA.o.quiet (zc.drewN [] W nq));have q0:(W.drewN nq).cell? ⟨q,0,none⟩=some (int i64 (f:Int)):=p0;have q1:(W.drewN nq).cell? ⟨q,1,none⟩=some (int i64 (b:Int)):=p1;have l4:(W.drewN nq).cell? ⟨pb,po+4,none⟩=some (.slice (some ⟨fb,fo,none⟩) N fcp):=h4;have l2:(W.drewN nq).cell? ⟨fb,fo+f * 3+2,none⟩=some (.slice (some ⟨bb,bo,none⟩) M bcp):=h2;have lc:(W.drewN nq).cell? ⟨bb,bo+b * 5,none⟩=some (.slice ca x.code.length ccp):=hcc;have n1:(W.drewN nq).cell? ⟨bb,bo+b * 5+1,none⟩=some (int i64 x.fin):=m1;have n2:(W.drewN nq).cell? ⟨bb,bo+b * 5+2,none⟩=some (int i64 x.reg):=m2;have n3:(W.drewN nq).cell? ⟨bb,bo+b * 5+3,none⟩=some (int i64 x.to):=m3;have n4:(W.drewN nq).cell? ⟨bb,bo+b * 5+4,none⟩=some (int i64 x.els):=m4;generalize W.drewN nq=W2 at *;clear p0 p1 p2 h4 h2 hcc m1 m2 m3 m4 hq KA;have kz:=zc.alloc [] W2 (.cells #[.slice none 0 0,int i64 0,int i64 0,int i64 0,int i64 0] 57);have t0:=za kz q0;have t1:=za kz q1;have t4:=za kz l4;have t2:=za kz l2;have tc:=za kz lc;have s1:=za kz n1;have s2:=za kz n2;have s3:=za kz n3;have s4:=za kz n4;clear kz
 go_region
 clear t0 t1 t2 t4 tc s1 s2 s3 s4;go_upto_region 4 with fail;have hu:((W2.alloc (.cells #[.slice ca x.code.length ccp,int i64 x.fin,int i64 x.reg,int i64 x.to,int i64 x.els] 57)).drew).heap[W2.heap.size]? = some (.cells #[.slice ca x.code.length ccp,int i64 x.fin,int i64 x.reg,int i64 x.to,int i64 x.els] 57 (0,0)):=zh W2 _;have kk:zc [] W2 ((W2.alloc (.cells #[.slice ca x.code.length ccp,int i64 x.fin,int i64 x.reg,int i64 x.to,int i64 x.els] 57)).drew):=(zc.alloc [] _ _).quiet (zc.drew [] _);have HQ3:=hid (ze HQ2.o kk);have K3:=hid (K2.o.quiet kk);generalize (W2.alloc (.cells #[.slice ca x.code.length ccp,int i64 x.fin,int i64 x.reg,int i64 x.to,int i64 x.els] 57)).drew=W3 at *;generalize W2.heap.size=u at *;clear kk HQ2 K2 q0 q1 l4 l2 lc n1 n2 n3 n4;have q0:=zd HQ3.o 0;have q1:=zd HQ3.o 1;have q2:=zd HQ3.o 2;have r0:=zd hu 0;have r1:=zd hu 1;have r3:=zd hu 3;have r4:=zd hu 4;by_cases hin:i<x.code.length
 ·rw[if_pos hin] at HXX
  have hin':(i:Int)<(x.code.length:Int):=by omega
  have w4:IntKind.i64.wrap ((i:Int)+1)=(i:Int)+1:=IntWalk.i64_in _ (by omega);have w5:(i:Int)+1≤150:=by omega
  generalize x.code.length=n at *;go_wp2_with fail;go_ret;unfold zcp;rw[HXX.o];exact ⟨_,_,rfl,zm2 _ _ (by simp) f b (i+1) _ (by omega),K3.o.quiet (zc.alloc [] _ _),fun g o e=>by have h9:=K3.o.size;simp at e;omega⟩
 ·rw[if_neg hin] at HXX
  have hne:¬ (i:Int)<(x.code.length:Int):=by omega
  have HX:=HXX;clear HXX;generalize x.code.length=n at *;clear hin
  go_upto_block 0 with fail
  go_cut [6] (fun tv wz=>∃ ta tcp,tv=.slice ta (zbl x).length tcp∧Box (zw wz ta (zbl x))∧Box (zc [] W3 wz))
  case first=>
   have e1:x.fin=1→zbl x=[x.to]:=fun h=>by unfold zbl;rw[if_pos h]
   have e2:x.fin=2→x.els=x.to→zbl x=[x.to]:=fun h h2=>by unfold zbl;rw[if_neg (by omega),if_pos h,if_pos h2]
   have e3:x.fin=2→¬ x.els=x.to→zbl x=[x.to,x.els]:=fun h h2=>by unfold zbl;rw[if_neg (by omega),if_pos h,if_neg h2]
   have e4:¬ x.fin=1→¬ x.fin=2→zbl x=[]:=fun h h2=>by unfold zbl;rw[if_neg h,if_neg h2]
   have E1:=hid e1;have E2:=hid e2;have E3:=hid e3;have E4:=hid e4;clear e1 e2 e3 e4 HX HQ3 K3 q0 q1 q2 r0 hne hu;by_cases f1:x.fin=1
   ·have o1:=eqb f1
    go_wp2_with fail;go_meet;rw[E1.o f1];exact ⟨_,_,rfl,hid (zat W3 _ rfl x.to),hid (zc.alloc [] _ _)⟩
   ·have o1:=neb f1
    by_cases f2:x.fin=2
    ·have o2:=eqb f2
     by_cases f3:x.els=x.to
     ·have o3:=eqb f3
      have o4:(x.els != x.to)=false:=by simp[f3]
      have v3:=za (zc.alloc [] W3 (.cells #[int i64 x.to] 3)) r3;have v4:=za (zc.alloc [] W3 (.cells #[int i64 x.to] 3)) r4;go_wp2_with fail;go_meet;rw[E2.o f2 f3];exact ⟨_,_,rfl,hid (zat W3 _ rfl x.to),hid (zc.alloc [] _ _)⟩
     ·have o3:=neb f3
      have o4:(x.els != x.to)=true:=by simp[f3]
      have v3:=za (zc.alloc [] W3 (.cells #[int i64 x.to] 3)) r3;have v4:=za (zc.alloc [] W3 (.cells #[int i64 x.to] 3)) r4;have F2:=hid f2;clear f2;go_wp2_with (at_builtin;go_must (refine wpList_append_own _ rfl _ _ 36 rfl W3.heap.size 3 Tryz.t3 (int i64 0) 1 8 zE zU qu qs zX rfl (by decide) _ 1 [int i64 x.to] rfl ((zhw W3 _ _ rfl (Nat.le_refl _) x.to).alloc _) ⟨W3.heap.size+1,0,none⟩ 1 1 [int i64 x.els] rfl rfl (by rw[← World.size_alloc (w:=W3) (o:=.cells #[int i64 x.to] 3)];exact cell_one_new _ _ _) (fun x hx=>by simp at hx;subst hx;rfl) (by unfold maxLen;omega) (by omega) (by simp;omega) ?_;intro v' w6 hown6 hgrow6 hnil6));have HK6:=hid (((zc.alloc [] W3 (.cells #[int i64 x.to] 3)).quiet (zc.alloc [] _ (.cells #[int i64 x.els] 3))).appended ((zhw W3 _ _ rfl (Nat.le_refl _) x.to).alloc (.cells #[int i64 x.els] 3)) hgrow6 (Nat.le_refl _));obtain ⟨a,cp,ea,eb,ec,_,_⟩:=jN (l:=[x.to,x.els]) hown6;subst ea;go_wp2_with fail;go_meet;rw[E3.o F2.o f3];exact ⟨_,_,rfl,hid ec,HK6⟩
    ·have o2:=neb f2
     go_wp2_with fail;go_meet;rw[E4.o f1 f2];exact ⟨_,_,rfl,hid (.inl rfl),hid (zc.refl _ _)⟩
  case rest=>
   obtain ⟨ta,tcp,rfl,HTA,HK5⟩:=hcut;have hts:=ziT x;generalize zbl x=ts at *;have K5:=hid (K3.o.quiet HK5.o);have HQX:=hid (ze HQ3.o HK5.o);clear HK5 q0 q1 q2 r0 r1 r3 r4 hu HQ3 K3 hne;generalize wc=w5 at *;have H45:=hid (fun (w':World) (k:zc [] w w')=>za k H4.o);have H25:=hid (fun (w':World) (k:zc [] w w')=>za k H2.o);have HQ5:=hid (fun (w':World) (k:zc [] w5 w')=>(ze HQX.o k:w'.heap[q]? = some (.cells #[int i64 (f:Int),int i64 (b:Int),int i64 (i:Int)] 99 (0,0))));have HR0:Box (w5.ownsRow w5.heap.size 99 3 (.slice none 0 0) (QI P f (ts.take 0)).length (Zt (QI P f (ts.take 0)))):=hid (World.ownsRow_nil _ _ _ _);go_wp2_with fail
   go_loopw [7,8] (fun lv kv wr=>∃ k:Nat,k≤ts.length∧kv=int i64 (k:Int)∧Box (wr.ownsRow w5.heap.size 99 3 lv (QI P f (ts.take k)).length (Zt (QI P f (ts.take k))))∧Box (zc [] w5 wr)) (fun _ kv _=>ts.length - (intOf kv).toNat)
   case atStart=>exact ⟨0,by omega,rfl,HR0,hid (zc.refl _ _)⟩
   case round=>
    obtain ⟨k,hk,rfl,HR,HK⟩:=hrel;clear HR0;by_cases hlt:k<ts.length
    ·have hlt':(k:Int)<(ts.length:Int):=by omega
     obtain ⟨tb,tf,rfl,ht⟩:∃ tb tf,ta=some ⟨tb,tf,none⟩∧wr.cell? ⟨tb,tf+k,none⟩=some (int i64 (ts.getD k 0)):=by
      rcases HTA.o with e | ⟨tb,tf,e1,e2⟩
      ·exfalso;rw[e] at hlt;simp at hlt
      ·exact ⟨tb,tf,e1,za HK.o (e2 k hlt)⟩
     have hsn:Box (ts.take (k+1)=ts.take k ++ [ts.getD k 0]):=hid (by
      rw[List.take_succ_eq_append_getElem hlt,List.getD_eq_getElem?_getD,List.getElem?_eq_getElem hlt]
      rfl)
     have hll:(QI P f (ts.take k)).length≤k:=Nat.le_trans (zh5 P f _) (by rw[List.length_take];omega);have hks:=HK.o.size;have g4:=H45.o _ (K5.o.quiet HK.o);have g2:=H25.o _ (K5.o.quiet HK.o);have hz:=HQ5.o _ HK.o;have p0:wr.cell? ⟨q,0,none⟩=some (int i64 (f:Int)):=zd hz 0;generalize ts.getD k 0=t at *;generalize ts.length=m at *;by_cases hbk:0≤t∧t<(M:Int)
     ·have hn:Box (QI P f (ts.take (k+1))=QI P f (ts.take k) ++ [(f,t.toNat,0)]):=hid (by rw[hsn.o];exact zky P f _ t ⟨hbk.1,by have:=HMM.o;omega⟩)
      have hN2:Box ((QI P f (ts.take (k+1))).length=(QI P f (ts.take k)).length+1∧Zt (QI P f (ts.take (k+1)))=Zt (QI P f (ts.take k)) ++ [int i64 (f:Int),int i64 t,int i64 0]):=hid (by
       rw[hn.o,JU,show ((t.toNat:Nat):Int)=t by omega]
       exact ⟨by simp,rfl⟩)
      have x1:=hbk.1;have x2:=hbk.2;have o1:decide (0≤t)=true:=by simpa using x1
      have o2:decide (t<(M:Int))=true:=by simpa using x2
      clear hn hsn hbk hz;generalize (QI P f (ts.take k)).length=nn at *;generalize Zt (QI P f (ts.take k))=xs at *;go_wp2_with fail;go_quiet (fail);go_wp2_with fail;have HKd:=hid (HK.o.quiet (zc.drewN [] wr nq));have HRd:Box ((wr.drewN nq).ownsRow w5.heap.size 99 3 u7 nn xs):=hid HR.o;have p0':(wr.drewN nq).cell? ⟨q,0,none⟩=some (int i64 (f:Int)):=p0;have ht':(wr.drewN nq).cell? ⟨tb,tf+k,none⟩=some (int i64 t):=ht;have hks':w5.heap.size≤(wr.drewN nq).heap.size:=hks;generalize wr.drewN nq=wy at *;clear HK HR p0 ht hks g4 g2 o1 o2
      go_region_law (refine step_append_lies _ (by rfl) _ _ _ (by rfl) w5.heap.size 99 Tryz.t99 (agg #[int i64 0,int i64 0,int i64 0]) 3 24 ZO zac zaS ZR JG rfl (by decide) u7 nn xs (by rfl) (HRd.o.alloc _) ⟨wy.heap.size,0,none⟩ 1 1 [int i64 (f:Int),int i64 t,int i64 0] (by rfl) (by rfl) (World.news_of_block (cs:=#[int i64 (f:Int),int i64 t,int i64 0]) (t:=99) (fr:=(0,0)) (heap_alloc_new wy _)) (QL _ _ _) (by omega) (by unfold maxLen;omega) (by omega) (by simp;omega) (wy.heap.size+1) (by simp) ?_;intro g7 cap7 w7 hown7 hgrow7 hat7 hlt7;have HK7:=hid ((HKd.o.quiet ((zc.alloc [] wy _).quiet (zc.drew [] _))).appended HRd.o hgrow7 (Nat.le_refl _));have HO7:=hid hown7;clear hown7 hgrow7 hat7 hlt7)
      all_goals
       go_wp2_with fail;go_roundw
       case rel=>exact ⟨k+1,by omega,by go_num,hid (by rw[hN2.o.1,hN2.o.2];exact HO7.o),HK7⟩
       case measure=>simp[intOf];omega
     ·have hn:Box (QI P f (ts.take (k+1))=QI P f (ts.take k)):=hid (by rw[hsn.o];exact zhR P f _ t (fun h=>hbk ⟨h.1,by have:=HMM.o;omega⟩))
      clear hsn hz;by_cases x1:0≤t
      ·have x2:¬ t<(M:Int):=fun h=>hbk ⟨x1,h⟩
       clear hbk;go_wp2_with fail;go_quiet (fail);go_wp2_with fail;go_roundw
       case rel=>exact ⟨k+1,by omega,by go_num,hid (by rw[hn.o];exact HR.o),hid (HK.o.quiet (zc.drewN [] _ _))⟩
       case measure=>simp[intOf];omega
      ·clear hbk
       have x3:t<0:=by omega
       have o1:decide (0≤t)=false:=by simpa using x1
       go_wp2_with fail;go_quiet (fail);go_wp2_with fail;go_roundw
       case rel=>exact ⟨k+1,by omega,by go_num,hid (by rw[hn.o];exact HR.o),hid (HK.o.quiet (zc.drewN [] _ _))⟩
       case measure=>simp[intOf];omega
    ·obtain hke:k=ts.length:=by omega
     have he:Box (ts.take k=ts):=hid (by rw[hke,List.take_length]);have hnl:¬ (k:Int)<(ts.length:Int):=by omega
     generalize ts.length=m at *;go_wp2_with fail;go_ret;obtain ⟨a,cp,e1,e2,e3,_⟩:=zbk HR.o;have hnw:=zjP HR.o e1;rw[he.o] at e1 e3;unfold zcp;rw[HX.o];exact ⟨a,cp,congrArg Ending.returned e1,e3,K5.o.quiet HK.o,fun g o e=>Nat.le_trans K5.o.size (hnw g o e)⟩
end Go.Proofs.YthflgjkmbakedaaGreatDoor
