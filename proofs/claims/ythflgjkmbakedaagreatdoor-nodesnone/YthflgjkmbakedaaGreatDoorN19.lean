import Derived.Test.YthflgjkmbakedaaGreatDoorN18

namespace Go.Proofs.YthflgjkmbakedaaGreatDoor
open Go.RowKit
open Go.Value (int pointer agg)
open Go.IntKind (i64)
set_option maxRecDepth 20000
set_option maxHeartbeats 8000000
variable {M:Nat}{ev:Operand→Value}{ks:List (Int × Int)}{l:Array Bool}{oi:Oper}{w:World}
theorem zcQ(v u t s:Value)(w:World):(callFunc 195 #[v,u,t,s]).run Tryz.prog w=.ok (.enter 195 #[v,u,t,s]) w:=by go_simp
theorem zgI{n k:Nat}{g:Nat→Bool}(hk:k<n)(h:g k=false):(List.range n).all g=false:=List.all_eq_false.2 ⟨k,List.mem_range.2 hk,by rw[h];simp⟩
theorem zgH{pb po mb mo:Nat}{P:Pr8}{m:Int × Int × List Int}(h:PrC w pb po P)(hm:ImC w mb mo m):Calls Tryz.prog 126 #[pointer (some ⟨pb,po,none⟩),pointer (some ⟨mb,mo,none⟩)] w fun e w'=>e=.returned (.bool (JT P m))∧za [] w w':=by
 obtain ⟨rec,ifc,fs⟩:=m;obtain ⟨ra,rp,c0,_⟩:=h.c0;obtain ⟨ia,ip,c2,ir,_⟩:=h.c2;have m0:=hm.c0.1;have m1:=hm.c1.1;obtain ⟨fa,fp,m2,fr,fl,fx⟩:=hm.c2;simp only at m0 m1 m2 fr fl fx;obtain ⟨res,hres⟩:∃ x,x=JT P (rec,ifc,fs):=⟨_,rfl⟩;rw[← hres];unfold JT at hres;simp only at hres;have HRES:=hid hres;have HP:=hid h;have HIR:=hid ir;have HFR:=hid fr;have HFX:=hid fx;clear h hm hres ir fr fl fx;obtain ⟨RN,hRN⟩:∃ x,x=P.recs.length:=⟨_,rfl⟩;obtain ⟨IN,hIN⟩:∃ x,x=P.ifs.length:=⟨_,rfl⟩;obtain ⟨N,hN⟩:∃ x,x=fs.length:=⟨_,rfl⟩;rw[← hRN] at c0 HRES;rw[← hIN] at c2 HRES;rw[← hN] at m2 HRES HFX;have HIN:=hid hIN;have HN:=hid hN;clear hRN hIN hN;go_enter Tryz.func126,Tryz.ntmps126;go_upto_region 1 with fail;cases hr:inB rec RN with
 | false=>
  have HR:Box (res=false):=hid (by rw[HRES.o,hr];rfl);refine zp (W0:=w) 77 [pointer (some ⟨mb,mo,none⟩),pointer (some ⟨mb,mo,none⟩),pointer (some ⟨mb,mo,none⟩),int i64 rec,pointer (some ⟨pb,po,none⟩),pointer (some ⟨pb,po,none⟩),pointer (some ⟨pb,po,none⟩),.slice ra RN rp,int i64 (RN:Int),.bool false,.bool true,.bool true,undef,undef,undef,undef,undef,undef,undef,undef,undef,undef,undef,.bool true] (by kernel_rfl) (by rfl) (by kernel_rfl) (za.refl _ _) (fun A hA=> ?_);simp only[zE,Act.put,sTA,sC0,sCS] at hA;subst hA;refine ⟨gR (gR (gR (gY (fun _ k9=>zZ (zb k9 m0) rfl rfl) (gR (gR (gR (gY (fun _ k9=>QK (zb k9 c0) rfl rfl) (gY (fun _ _=>ZN rfl rfl) (zm.cons (zD (by rfl) 194 #[int i64 rec,int i64 (RN:Int)] (fun w=>ql rfl rfl rfl rfl (zG _ _ w)) (fun w9 _=>zF rec RN w9 hr)) (gY (fun _ _=>zae rfl rfl) (gR (gP (gP (gP (gP (gP (gP (gP (gP (gP (gP (gP (gR (zm.nil)))))))))))))))))))))))),fun w8 k8=> ?_⟩;go_wp2_with fail;go_ret;exact ⟨by rw[HR.o];rfl,k8⟩
 | true=>
 rw[hr,Bool.true_and] at HRES;cases hi:inB ifc IN with
 | false=>
  have HR:Box (res=false):=hid (by rw[HRES.o,hi];rfl);refine zp (W0:=w) 77 [pointer (some ⟨mb,mo,none⟩),pointer (some ⟨mb,mo,none⟩),pointer (some ⟨mb,mo,none⟩),int i64 rec,pointer (some ⟨pb,po,none⟩),pointer (some ⟨pb,po,none⟩),pointer (some ⟨pb,po,none⟩),.slice ra RN rp,int i64 (RN:Int),.bool true,.bool false,.bool false,pointer (some ⟨mb,mo,none⟩),pointer (some ⟨mb,mo,none⟩),pointer (some ⟨mb,mo+1,none⟩),int i64 ifc,pointer (some ⟨pb,po,none⟩),pointer (some ⟨pb,po,none⟩),pointer (some ⟨pb,po+2,none⟩),.slice ia IN ip,int i64 (IN:Int),.bool false,.bool true,.bool true] (by kernel_rfl) (by rfl) (by kernel_rfl) (za.refl _ _) (fun A hA=> ?_);simp only[zE,Act.put,sTA,sC0,sCS] at hA;subst hA;refine ⟨gR (gR (gR (gY (fun _ k9=>zZ (zb k9 m0) rfl rfl) (gR (gR (gR (gY (fun _ k9=>QK (zb k9 c0) rfl rfl) (gY (fun _ _=>ZN rfl rfl) (zm.cons (zD (by rfl) 194 #[int i64 rec,int i64 (RN:Int)] (fun w=>ql rfl rfl rfl rfl (zG _ _ w)) (fun w9 _=>zF rec RN w9 hr)) (gY (fun _ _=>zae rfl rfl) (gR (gR (gR (gR (gY (fun _ k9=>zZ (zb k9 m1) rfl rfl) (gR (gR (gR (gY (fun _ k9=>JW (zb k9 c2) rfl rfl) (gY (fun _ _=>zaC rfl rfl) (zm.cons (zD (by rfl) 194 #[int i64 ifc,int i64 (IN:Int)] (fun w=>ql rfl rfl rfl rfl (zG _ _ w)) (fun w9 _=>zF ifc IN w9 hi)) (gY (fun _ _=>zae rfl rfl) (gR (zm.nil)))))))))))))))))))))))),fun w8 k8=> ?_⟩;go_wp2_with fail;go_ret;exact ⟨by rw[HR.o];rfl,k8⟩
 | true=>
 rw[hi,Bool.true_and] at HRES;obtain ⟨i0,i1⟩:=z6.1 hi;obtain ⟨J,rfl⟩:∃ J:Nat,ifc=(J:Int):=⟨ifc.toNat,by omega⟩;have hlt_J:(J:Int)<(IN:Int):=i1;obtain ⟨ib,io,rfl,h1⟩:=HIR.o.at (zi (l:=P.ifs) (k:=J) (d:=[]) (by rw[← HIN.o];omega));obtain ⟨ga,gp,g0,gr,_⟩:=h1;have HGR:=hid gr;unfold if8 at HRES;rw[Int.toNat_natCast] at HRES;rw[Nat.mul_one] at g0;clear gr i0 HIR HIN;generalize P.ifs.getD J []=ms at *;obtain ⟨M,hM⟩:∃ x,x=ms.length:=⟨_,rfl⟩;rw[← hM] at g0 HRES;have HM:=hid hM;clear hM;refine zp (W0:=w) 77 [pointer (some ⟨mb,mo,none⟩),pointer (some ⟨mb,mo,none⟩),pointer (some ⟨mb,mo,none⟩),int i64 rec,pointer (some ⟨pb,po,none⟩),pointer (some ⟨pb,po,none⟩),pointer (some ⟨pb,po,none⟩),.slice ra RN rp,int i64 (RN:Int),.bool true,.bool false,.bool false,pointer (some ⟨mb,mo,none⟩),pointer (some ⟨mb,mo,none⟩),pointer (some ⟨mb,mo+1,none⟩),int i64 (J:Int),pointer (some ⟨pb,po,none⟩),pointer (some ⟨pb,po,none⟩),pointer (some ⟨pb,po+2,none⟩),.slice (some ⟨ib,io,none⟩) IN ip,int i64 (IN:Int),.bool true,.bool false,.bool false] (by kernel_rfl) (by rfl) (by kernel_rfl) (za.refl _ _) (fun A hA=> ?_);simp only[zE,Act.put,sTA,sC0,sCS] at hA;subst hA;refine ⟨gR (gR (gR (gY (fun _ k9=>zZ (zb k9 m0) rfl rfl) (gR (gR (gR (gY (fun _ k9=>QK (zb k9 c0) rfl rfl) (gY (fun _ _=>ZN rfl rfl) (zm.cons (zD (by rfl) 194 #[int i64 rec,int i64 (RN:Int)] (fun w=>ql rfl rfl rfl rfl (zG _ _ w)) (fun w9 _=>zF rec RN w9 hr)) (gY (fun _ _=>zae rfl rfl) (gR (gR (gR (gR (gY (fun _ k9=>zZ (zb k9 m1) rfl rfl) (gR (gR (gR (gY (fun _ k9=>JW (zb k9 c2) rfl rfl) (gY (fun _ _=>zaC rfl rfl) (zm.cons (zD (by rfl) 194 #[int i64 (J:Int),int i64 (IN:Int)] (fun w=>ql rfl rfl rfl rfl (zG _ _ w)) (fun w9 _=>zF (J:Int) IN w9 hi)) (gY (fun _ _=>zae rfl rfl) (gR (zm.nil)))))))))))))))))))))))),fun w3 k3=> ?_⟩;have K3:=hid k3;replace c2:=zb k3 c2;replace m0:=zb k3 m0;replace m1:=zb k3 m1;replace m2:=zb k3 m2;replace g0:=zb k3 g0;clear k3 c0;go_upto_region 3 with fail;refine zp (W0:=w3) 77 [pointer (some ⟨pb,po,none⟩),pointer (some ⟨pb,po,none⟩),pointer (some ⟨pb,po+2,none⟩),.slice (some ⟨ib,io,none⟩) IN ip,pointer (some ⟨mb,mo,none⟩),pointer (some ⟨mb,mo,none⟩),pointer (some ⟨mb,mo+1,none⟩),int i64 (J:Int),pointer (some ⟨ib,io+J,none⟩),pointer (some ⟨ib,io+J,none⟩),.slice ga M gp,.slice ga M gp] (by kernel_rfl) (by rfl) (by kernel_rfl) (za.refl _ _) (fun A hA=> ?_);simp only[zE,Act.put,sTA,sC0,sCS] at hA;subst hA;refine ⟨gR (gR (gR (gY (fun _ k9=>JW (zb k9 c2) rfl rfl) (gR (gR (gR (gY (fun _ k9=>zZ (zb k9 m1) rfl rfl) (gY (fun _ _=>zgq rfl rfl rfl hlt_J) (gR (gY (fun _ k9=>zfH (zb k9 g0) rfl rfl) (gR (zm.nil)))))))))))),fun w4 k4=> ?_⟩;have K4:=hid (K3.o.quiet k4);replace m0:=zb k4 m0;replace m2:=zb k4 m2;clear k4 c2 m1 g0 K3 hr hi;by_cases hNM:N=M
 case neg=>
  have hd:((N:Int) != (M:Int))=true:=by rw[bne_iff_ne];omega
  have HR:Box (res=false):=hid (by
   rw[HRES.o,Bool.and_eq_false_iff];left;rw[decide_eq_false_iff_not]
   exact hNM)
  clear HRES hNM;go_wp2_with fail;go_ret;exact ⟨by rw[HR.o];rfl,K4.o⟩
 subst hNM;have HR2:Box (res=(List.range N).all fun k=>isM P rec (fs.getD k 0) (ms.getD k 0)):=hid (by rw[HRES.o];simp);have hd:((N:Int) != (N:Int))=false:=by simp
 clear HRES;go_upto_region 7 with fail;obtain ⟨W,hW⟩:∃ W,W=w4.alloc (.cells #[int i64 1,int i64 rec] 52):=⟨_,rfl⟩;have kb:za [] w4 W:=by rw[hW];exact za.alloc [] _ _
 have hq:W.heap[w4.heap.size]? = some (.cells #[int i64 1,int i64 rec] 52 (0,0)):=by rw[hW];exact zd _ _
 replace m0:=zb kb m0;replace m2:=zb kb m2;have KW:=hid (K4.o.quiet kb);rw[← hW];have HQ:=hid hq;clear hW kb hq K4 hd;generalize w4.heap.size=q at *;go_wp2_with fail;have HM2:=hid m2;clear m0 m2;have hfx:=HFX.o;unfold maxLen at hfx
 go_loopw [62] (fun kv wr=>∃ k:Nat,k≤N∧kv=int i64 (k:Int)∧Box (za [] W wr)∧Box (∀ j,j<k→isM P rec (fs.getD j 0) (ms.getD j 0)=true)) (fun kv _=>N - (intOf kv).toNat)
 case atStart=>exact ⟨0,by omega,rfl,hid (za.refl _ _),hid fun j hj=>by omega⟩
 case round=>
  obtain ⟨K,hk,rfl,HK,HJ⟩:=hrel;by_cases hlt:K<N
  ·have hlt':(K:Int)<(N:Int):=by omega
   have hlt_K:(K:Int)<(N:Int):=hlt';obtain ⟨fb,fo,rfl,t1⟩:=HFR.o.at (zi (l:=fs) (k:=K) (d:=0) (by rw[← HN.o];exact hlt));obtain ⟨gb,go',rfl,t2⟩:=HGR.o.at (zi (l:=ms) (k:=K) (d:=0) (by rw[← HM.o];exact hlt));have d0:=zb (KW.o.quiet HK.o) t1.1;have e0:=zb (KW.o.quiet HK.o) t2.1;rw[Nat.mul_one] at d0 e0;have hqr:=ze HQ.o HK.o;have q0:=zc hqr 0;have q1:=zc hqr 1;have HIS:=hid fun (w9:World) (k9:za [] wr w9)=>zgD (PrC.stays _ _ _ _ _ (KW.o.quiet (HK.o.quiet k9)) HP.o) (fs.getD K 0) rec (ms.getD K 0);obtain ⟨b,hb⟩:∃ b,b=isM P rec (fs.getD K 0) (ms.getD K 0):=⟨_,rfl⟩;rw[← hb] at HIS;have HB:=hid hb;clear t1 t2 hqr hb;obtain ⟨fn,hfn⟩:∃ z,z=fs.getD K 0:=⟨_,rfl⟩;obtain ⟨sn,hsn⟩:∃ z,z=ms.getD K 0:=⟨_,rfl⟩;rw[← hfn] at d0 HIS;rw[← hsn] at e0 HIS;clear hfn hsn;go_upto_region 10 with fail;refine zp (W0:=wr) 77 [pointer (some ⟨pb,po,none⟩),int i64 fn,agg #[int i64 1,int i64 rec],.slice (some ⟨gb,go',none⟩) N gp,int i64 (K:Int),pointer (some ⟨gb,go'+K,none⟩),int i64 sn,.bool b,.bool (!b)] (by kernel_rfl) (by rfl) (by kernel_rfl) (za.refl _ _) (fun A hA=> ?_);simp only[zE,Act.put,sTA,sC0,sCS] at hA;subst hA;refine ⟨gR (gR (gY (fun _ k9=>qL (zb k9 q0) (zb k9 q1) rfl rfl) (gR (gR (gY (fun _ _=>zes rfl rfl rfl hlt_K) (gY (fun _ k9=>zZ (zb k9 e0) rfl rfl) (zm.cons (zD (by rfl) 195 #[pointer (some ⟨pb,po,none⟩),int i64 fn,agg #[int i64 1,int i64 rec],int i64 sn] (fun w=>zhU rfl rfl rfl rfl rfl rfl (zcQ _ _ _ _ w)) (fun w9 k9=>HIS.o w9 k9)) (gY (fun _ _=>zae rfl rfl) (zm.nil))))))))),fun w8 k8=> ?_⟩;cases b with
   | true=>
    go_wp2_with fail;go_roundw
    case rel=>
     refine ⟨K+1,by omega,by go_num,hid (HK.o.quiet k8),hid fun j hj=> ?_⟩;by_cases hjk:j=K
     ·subst hjk
      exact HB.o.symm
     ·exact HJ.o j (by omega)
    case measure=>simp[intOf];omega
   | false=>
    go_wp2_with fail;go_ret;exact ⟨by rw[HR2.o,zgI hlt HB.o.symm];rfl,KW.o.quiet (HK.o.quiet k8)⟩
  ·obtain rfl:K=N:=by omega
   go_wp2_with fail;go_ret;refine ⟨?_,KW.o.quiet HK.o⟩;rw[HR2.o,List.all_eq_true.2 fun j hj=>HJ.o j (List.mem_range.1 hj)];rfl
theorem J8(w:World):Calls Tryz.prog 125 #[] w (jt 7 (-1) 0 0 w):=by
 have H:=hid fun (w':World)=>zdc 7 (-1) 0 0 w';go_enter Tryz.func125,Tryz.ntmps125;go_wp2_with fail;refine (H.o _).mono ?_;rintro e w1 ⟨p,rfl,h1,h2⟩;go_wp2_with fail;go_ret;exact ⟨p,rfl,h1,h2⟩
structure Met (ks l:List (Int × Int)):Prop where
 mem:∀ x,x∈ks ↔ x∈l
 len:ks.length≤l.length
 eq:ks.length=l.length ↔ l.Nodup
theorem Met.nil:Met [] []:=⟨fun _=>Iff.rfl,Nat.le_refl _,by simp⟩
theorem Met.put{l:List (Int × Int)}(h:Met ks l)(q:Int × Int):Met (if q∈ks then ks else ks ++ [q]) (l ++ [q]):=by
 by_cases hq:q∈ks
 ·rw[if_pos hq]
  refine ⟨fun x=> ?_,by rw[List.length_append];have:=h.len;omega,?_⟩
  ·rw[List.mem_append,List.mem_singleton,h.mem]
   exact ⟨fun hx=>.inl hx,fun hx=>hx.elim id fun e=>e ▸ (h.mem q).1 hq⟩
  ·refine ⟨fun e=> ?_,fun hn=> ?_⟩
   ·exfalso
    have:=h.len;simp at e;omega
   ·exfalso
    rw[List.nodup_append] at hn;exact hn.2.2 q ((h.mem q).1 hq) q (by simp) rfl
 ·rw[if_neg hq]
  have hl:q ∉ l:=fun hx=>hq ((h.mem q).2 hx);refine ⟨fun x=>by simp[h.mem],by rw[List.length_append,List.length_append];have:=h.len;simp only[List.length_singleton];omega,?_⟩;rw[List.length_append,List.length_append,List.nodup_append];refine ⟨fun e=>⟨h.eq.1 (by simpa using e),by simp,fun a ha b hb=> ?_⟩,fun hn=>by rw[h.eq.2 hn.1]⟩;rw[List.mem_singleton] at hb;exact fun e=>hl (hb ▸ e ▸ ha)
def kE(M:Nat)(ks:List (Int × Int))(q:Int × Int)(l:Array Bool)(w:World):Prop:=ji w M (bif l.getD 13 false then (if q∈ks then ks else ks ++ [q]) else ks)
theorem kE.keep{q:Int × Int}{i:Nat}(h:kE M ks q l w)(hi:i≠13):kE M ks q (l.setIfInBounds i true) w:=by
 unfold kE;rw[js hi];exact h
theorem kE.put{q:Int × Int}(h:kE M ks q l w)(hi:13<l.size):∃ w',(Instr.mapUpdate 258 (.map (some M)) (kkV q) (agg #[])).run Tryz.prog w=.ok () w'∧kE M ks q (l.setIfInBounds 13 true) w'∧za [M] w w':=by
 obtain ⟨w',h1,h2,h3⟩:=ji.put h q;refine ⟨w',h1,?_,h3⟩;unfold kE;rw[jj hi];cases hb:l.getD 13 false with
 | false=>
  rw[hb] at h2;exact h2
 | true=>
  rw[hb] at h2;have hm:q∈(if q∈ks then ks else ks ++ [q]):=by
   by_cases hq:q∈ks
   ·rw[if_pos hq];exact hq
   ·rw[if_neg hq];simp
  simp only[cond_true] at h2 ⊢
  rwa [if_pos hm] at h2
theorem kE.all{q:Int × Int}(h:kE M ks q l w)(hl:l.getD 13 false=true):ji w M (if q∈ks then ks else ks ++ [q]):=by
 unfold kE at h;rw[hl] at h;exact h
theorem kE.start{q:Int × Int}{n:Nat}(h:ji w M ks):kE M ks q (Array.replicate n false) w:=by
 unfold kE;have:(Array.replicate n false).getD 13 false=false:=by
  by_cases hn:13<n
  ·simp[Array.getD,hn]
  ·simp[Array.getD,hn]
 rw[this];exact h
theorem zgw(ho:oi.op=.build 259 #[]):(execOp ev oi).run Tryz.prog w=.ok (.value (agg #[])) w:=by
 simp[execOp,ho,go_sem]
theorem zh0{a b:Int}{x y:Operand}(ho:oi.op=.build 260 #[(0,x),(1,y)])(hx:ev x=int i64 a)(hy:ev y=int i64 b):(execOp ev oi).run Tryz.prog w=.ok (.value (agg #[int i64 a,int i64 b])) w:=by
 simp[execOp,ho,hx,hy,go_sem]
theorem xmu{w':World}{q:Int × Int}{x y z:Operand}(ho:oi.op=.mapUpdate 258 x y z)(hx:ev x=.map (some M))(hy:ev y=agg #[int i64 q.1,int i64 q.2])(hz:ev z=agg #[])(h:(Instr.mapUpdate 258 (.map (some M)) (kkV q) (agg #[])).run Tryz.prog w=.ok () w'):(execOp ev oi).run Tryz.prog w=.ok .skip w':=by
 unfold kkV at h;simp[execOp,ho,hx,hy,hz,h,Result.andThen]
theorem zcJ{a:Option Addr}{cp:Nat}{ims:List (Int × Int × List Int)}(hr:zv w 3 ImC a ims)(hl:ims.length≤maxLen):Calls Tryz.prog 124 #[.slice a ims.length cp] w fun e w'=>e=.returned (.bool (!decide (ims.map fun m=>(m.1,m.2.1)).Nodup))∧za [] w w':=by
 have HR:=hid hr;obtain ⟨keys,hkeys⟩:∃ l,l=ims.map fun m=>(m.1,m.2.1):=⟨_,rfl⟩;rw[← hkeys];have HKS:=hid hkeys;obtain ⟨N,hN⟩:∃ n,n=ims.length:=⟨_,rfl⟩;have HN:=hid hN;have HKL:Box (keys.length=N):=hid (by rw[hkeys,hN,List.length_map]);rw[← hN] at hl ⊢;unfold maxLen at hl;have HM0:=hid (ji.made w);have HK0:=hid (za.alloc [] w (.map #[] 0));have hmk:∀ w,(Instr.makeMap 258 none).run Tryz.prog w=.ok (.map (some w.heap.size)) (w.alloc (.map #[] 0)):=fun w=>by kernel_rfl
 clear hr hkeys hN;go_enter Tryz.func124,Tryz.ntmps124;go_wp2_with fail;generalize w.alloc (.map #[] 0)=W at *;obtain ⟨M,hM⟩:∃ M,M=w.heap.size:=⟨_,rfl⟩;have HM:=hid hM;rw[← hM] at HM0 ⊢;clear hM hmk
 go_loopw [8] (fun kv wr=>∃ k:Nat,k≤N∧kv=int i64 (k:Int)∧Box (∃ ks,ji wr M ks∧Met ks (keys.take k)∧za [] w wr)) (fun kv _=>N - (intOf kv).toNat)
 case atStart=>exact ⟨0,by omega,rfl,hid ⟨[],HM0.o,by rw[List.take_zero];exact Met.nil,HK0.o⟩⟩
 case round=>
  obtain ⟨K,hk,rfl,HJ⟩:=hrel;obtain ⟨ks,hs,hmt,hkp⟩:=HJ.o;have HMT:=hid hmt;have HKP:=hid hkp;by_cases hlt:K<N
  ·have hlt':(K:Int)<(N:Int):=by omega
   obtain ⟨b,o,rfl,t1⟩:=HR.o.at (zi (l:=ims) (k:=K) (d:=(0,0,[])) (by rw[← HN.o];exact hlt));have c0:=zb hkp t1.c0.1;have c1:=zb hkp t1.c1.1
   have HKE:Box (keys.take (K+1)=keys.take K ++ [((ims.getD K (0,0,[])).1,(ims.getD K (0,0,[])).2.1)]):=hid (by
    rw[List.take_add_one,HKS.o,List.getElem?_map,zi (l:=ims) (k:=K) (d:=(0,0,[])) (by rw[← HN.o];exact hlt)]
    rfl)
   have t1':=t1.c0.1;clear t1 HJ hmt hkp;generalize (ims.getD K (0,0,[])).1=x at *;generalize (ims.getD K (0,0,[])).2.1=y at *
   have HBM:Box (b ∉ [M]):=hid (by
    have h1:=block_lt_of_cell t1';have h2:=HM.o;simp only[List.mem_singleton];simp only at h1
    omega)
   have hlt_K:(K:Int)<(N:Int):=hlt';have HS:=hid hs;clear hs t1';go_upto_region 5 with fail;refine Qd (fun w'=>w'.cell? ⟨b,o+K * 3,none⟩=some (int i64 x)∧w'.cell? ⟨b,o+K * 3+1,none⟩=some (int i64 y)∧za [M] wr w') (kE M ks (x,y)) 30 [.map (some M),.slice (some ⟨b,o,none⟩) N cp,int i64 (K:Int),pointer (some ⟨b,o+K * 3,none⟩),pointer (some ⟨b,o+K * 3,none⟩),int i64 x,.slice (some ⟨b,o,none⟩) N cp,int i64 (K:Int),pointer (some ⟨b,o+K * 3,none⟩),pointer (some ⟨b,o+K * 3+1,none⟩),int i64 y,agg #[int i64 x,int i64 y],agg #[],undef] (by kernel_rfl) (by rfl) (by kernel_rfl) ⟨c0,c1,za.drew [M] _⟩ (kE.start (HS.o.kept (za.drew [] _) (by simp))) (fun A hA=> ?_);simp only[zE,Act.put,sTA,sC0,sCS] at hA;subst hA;refine ⟨gER (gER (gER (gEY (fun _ _=>zcw rfl rfl rfl hlt_K) (gER (gEY (fun _ s=>zZ s.1 rfl rfl) (gER (gER (gEY (fun _ _=>zcw rfl rfl rfl hlt_K) (gER (gEY (fun _ s=>zZ s.2.1 rfl rfl) (gEY (fun _ _=>zh0 rfl rfl rfl) (gEY (fun _ _=>zgw rfl) (zJ.cons (zbE (by rfl) (fun l w9 hi9 hs9 he9=>by obtain ⟨w',h1,h2,h3⟩:=he9.put hi9;exact ⟨w',xmu rfl rfl rfl rfl h1,⟨(h3.cell (block_lt_of_cell hs9.1) (HBM.o)).trans hs9.1,(h3.cell (block_lt_of_cell hs9.2.1) (HBM.o)).trans hs9.2.1,hs9.2.2.step h3⟩,h2⟩)) (zJ.nil)))))))))))))),fun l w8 hl8 k8 h8=> ?_⟩;have HS2:=hid (h8.all (hl8 13 (by decide)))
   have K2:Box (za [] w w8):=hid (HKP.o.trans k8.2.2 (fun z hz hl=>by
    have:=HM.o;simp at hz
    omega))
   clear hl8 k8 h8;go_wp2_with fail;go_roundw
   case rel=>exact ⟨K+1,by omega,by go_num,hid ⟨_,HS2.o,by rw[HKE.o];exact HMT.o.put _,K2.o⟩⟩
   case measure=>simp[intOf];omega
  ·obtain rfl:K=N:=by omega
   obtain ⟨es,clk,hes,hsz⟩:=hs.size
   have HD:Box (decide (es.size<K)= !decide keys.Nodup):=hid (by
    have h1:=HMT.o.len;have h2:=HMT.o.eq;have h3:=HKL.o;rw[List.take_of_length_le (by omega)] at h1 h2;rw[← hsz,h3] at h2;rw[← hsz,h3] at h1;by_cases hd:keys.Nodup
    ·have:=h2.2 hd
     have e1:decide keys.Nodup=true:=decide_eq_true hd;rw[e1];exact decide_eq_false (by omega)
    ·have:¬ es.size=K:=fun e=>hd (h2.1 e)
     have e1:decide keys.Nodup=false:=decide_eq_false hd;rw[e1]
     exact decide_eq_true (by omega))
   have hln:=fun ty=>run_len_map (P:=Tryz.prog) (w:=wr) 258 ty M es clk (by kernel_rfl) hes;clear hs hsz HJ hmt;go_wp2_with fail;go_ret;exact ⟨by rw[← HD.o];rfl,HKP.o⟩
theorem zfo{pb po:Nat}{P:Pr8}(h:PrC w pb po P):Calls Tryz.prog 83 #[pointer (some ⟨pb,po,none⟩)] w (Zt (za7 P) 7 (-1) 0 0 w):=by
 obtain ⟨a,cp,c3,hr,_,hx⟩:=h.c3;have HP:=hid h;have HTW:=hid (zcJ (cp:=cp) hr hx);have HRF:=hid fun (w':World)=>J8 w';have HR:=hid hr;have C3:Box (∀ w',za [] w w'→w'.cell? ⟨pb,po+3,none⟩=some (.slice a P.ims.length cp)):=hid fun w' k=>zb k c3;have HMB:Box (za7 P=(decide (P.ims.map fun m=>(m.1,m.2.1)).Nodup && P.ims.all (JT P))):=hid rfl;obtain ⟨N,hN⟩:∃ n,n=P.ims.length:=⟨_,rfl⟩;have HN:=hid hN;rw[← hN] at C3 HTW c3 hx;unfold maxLen at hx;clear h hr hN;go_enter Tryz.func83,Tryz.ntmps83;go_wp2_with fail;refine HTW.o.mono ?_;rintro e w1 ⟨rfl,k1⟩;have K1:=hid k1;clear c3 HTW k1;cases hd:decide (P.ims.map fun m=>(m.1,m.2.1)).Nodup with
 | false=>
  have HF:Box (za7 P=false):=hid (by rw[HMB.o,hd];rfl);clear HMB hd;go_wp2_with fail;refine (HRF.o _).mono ?_;rintro e w2 ⟨p,rfl,h2,k2⟩;have H2:=hid h2;have K2:=hid (K1.o.quiet k2);clear h2 k2;go_wp2_with fail;go_ret;rw[HF.o];exact ⟨p,rfl,H2.o,K2.o⟩
 | true=>
 rw[hd,Bool.true_and] at HMB;clear hd;have c3:=C3.o _ K1.o;go_wp2_with fail;clear c3
 go_loopw [17] (fun kv wr=>∃ k:Nat,k≤N∧kv=int i64 (k:Int)∧Box (za [] w wr)∧Box (∀ j,j<k→JT P (im8 P j)=true)) (fun kv _=>N - (intOf kv).toNat)
 case atStart=>exact ⟨0,by omega,rfl,K1,hid fun j hj=>by omega⟩
 case round=>
  obtain ⟨K,hk,rfl,HK,HJ⟩:=hrel;by_cases hlt:K<N
  ·have hlt':(K:Int)<(N:Int):=by omega
   have hKl:K<P.ims.length:=by rw[← HN.o];exact hlt
   obtain ⟨b,o,rfl,t1⟩:=HR.o.at (JY hKl);have c3:=C3.o _ HK.o;have HI:=hid (zgH (PrC.stays _ _ _ _ _ HK.o HP.o) (ImC.stays _ _ _ _ _ HK.o t1));have HME:Box (im8 P K∈P.ims):=hid (List.mem_of_getElem? (JY hKl));clear t1 hKl;go_wp2_with fail;refine HI.o.mono ?_;rintro e w3 ⟨rfl,k3⟩;have K3:=hid (HK.o.quiet k3);clear c3 k3 HI;cases hb:JT P (im8 P K) with
   | true=>
    have HB:=hid hb;clear hb;go_wp2_with fail;go_roundw
    case rel=>
     refine ⟨K+1,by omega,by go_num,K3,hid fun j hj=> ?_⟩;by_cases hjk:j=K
     ·subst hjk
      exact HB.o
     ·exact HJ.o j (by omega)
    case measure=>simp[intOf];omega
   | false=>
    have HF:Box (za7 P=false):=hid (by
     rw[HMB.o]
     exact List.all_eq_false.2 ⟨_,HME.o,by rw[hb];simp⟩)
    clear hb;go_wp2_with fail;refine (HRF.o _).mono ?_;rintro e w4 ⟨p,rfl,h4,k4⟩;have H4:=hid h4;have K4:=hid (K3.o.quiet k4);clear h4 k4;go_wp2_with fail;go_ret;rw[HF.o];exact ⟨p,rfl,H4.o,K4.o⟩
  ·obtain rfl:K=N:=by omega
   have HF:Box (za7 P=true):=hid (by
    rw[HMB.o,List.all_eq_true];intro x hx;obtain ⟨j,hj,e⟩:=List.getElem_of_mem hx;have:=HJ.o j (by rw[HN.o];exact hj);have e2:im8 P j=x:=by
     have:=JY hj;rw[List.getElem?_eq_getElem hj,e] at this;exact (Option.some.inj this).symm
    rwa [e2] at this)
   go_wp2_with fail;go_ret;rw[HF.o];exact ⟨rfl,HK.o⟩
end Go.Proofs.YthflgjkmbakedaaGreatDoor
