import Derived.Test.YthflgjkmbakedaaGreatDoorA29
import Derived.Test.YthflgjkmbakedaaGreatDoorA32

namespace Go.Proofs.YthflgjkmbakedaaGreatDoor
open Go.RowKit
open Go.Value (int pointer agg)
open Go.IntKind (i64)
set_option maxRecDepth 20000
set_option maxHeartbeats 8000000
variable {P:Pr8}{T:TypeId}{Z i n si:Nat}{ev:Operand→Value}{l:Array Bool}{oi:Oper}{v z:Array Value}{w w':World}
structure zbj (Z i si:Nat) (T:TypeId) (z v:Array Value) (l:Array Bool) (w:World):Prop where
 pi:l.getD si false=true→l.getD i false=true
 size:w.heap.size=Z+(bif l.getD i false then 1 else 0)
 fst:l.getD i false=true→w.heap[Z]? = some (.cells (bif l.getD si false then v else z) T (0,0))
theorem zbj.keep{k:Nat}(h:zbj Z i si T z v l w)(hk:k≠i∧k≠si):zbj Z i si T z v (l.setIfInBounds k true) w:=by
 have e1:=zL (l:=l) hk.1;have e2:=zL (l:=l) hk.2;exact ⟨by rw[e1,e2];exact h.pi,by rw[e1];exact h.size,by rw[e1,e2];exact h.fst⟩
theorem zbj.start(h:w.heap.size=Z):zbj Z i si T z v (Array.replicate n false) w:=by
 have:∀ k,(Array.replicate n false).getD k false=false:=fun k=>by
  by_cases hn:k<n
  ·simp[Array.getD,hn]
  ·simp[Array.getD,hn]
 exact ⟨fun e=>by (rw[this] at e;cases e),by rw[this];simpa using h,fun e=>by (rw[this] at e;cases e)⟩
theorem zbj.make(h:zbj Z i si T z v l w)(hd:i≠si)(hi:l.getD i false=false)(hl:i<l.size):w.heap.size=Z∧zbj Z i si T z v (l.setIfInBounds i true) (w.alloc (.cells z T)):=by
 have hs:l.getD si false=false:=by
  cases e:l.getD si false with
  | false=>rfl
  | true=>rw[h.pi e] at hi;cases hi
 have hz:w.heap.size=Z:=by have:=h.size;rw[hi] at this;simpa using this
 have e0:=qf hl;have e1:=zL (l:=l) hd;refine ⟨hz,fun _=>e0,?_,fun _=> ?_⟩
 ·rw[e0,World.size_alloc,hz]
  rfl
 ·rw[e1,hs, ← hz]
  exact heap_alloc_new _ _
theorem zbj.row(h:zbj Z i si T z v l w)(hi:l.getD i false=true)(hs:l.getD si false=false):w.heap[Z]? = some (.cells z T (0,0)):=by
 have:=h.fst hi;rw[hs] at this;exact this
theorem zbj.put(h:zbj Z i si T z v l w)(hd:si≠i)(hi:l.getD i false=true)(hl:si<l.size)(hsz:w'.heap.size=w.heap.size)(hr:w'.heap[Z]? = some (.cells v T (0,0))):zbj Z i si T z v (l.setIfInBounds si true) w':=by
 have e0:=qf hl;have e1:=zL (l:=l) hd;refine ⟨fun _=>by rw[e1];exact hi,by rw[e1,hsz];exact h.size,fun _=> ?_⟩;rw[e0];exact hr
theorem zoc{b:Nat}{x0 x1 x2 x3 x4:Value}(h:w.heap[b]? = some (.cells #[x0,x1,x2,x3,x4] T (0,0)))(u0 u1 u2 u3 u4:Value):
  (((((w.setCell ⟨b,0,none⟩ u0).setCell ⟨b,1,none⟩ u1).setCell ⟨b,2,none⟩ u2).setCell ⟨b,3,none⟩ u3).setCell ⟨b,4,none⟩ u4).heap[b]? = some (.cells #[u0,u1,u2,u3,u4] T (0,0)):=
 heap_setCell_same _ b 4 _ _ u4 (heap_setCell_same _ b 3 _ _ u3 (heap_setCell_same _ b 2 _ _ u2 (heap_setCell_same _ b 1 _ _ u1 (heap_setCell_same w b 0 _ _ u0 h))))
theorem zlU(w:World)(b:Nat)(u0 u1 u2 u3 u4:Value):zc [b] w (((((w.setCell ⟨b,0,none⟩ u0).setCell ⟨b,1,none⟩ u1).setCell ⟨b,2,none⟩ u2).setCell ⟨b,3,none⟩ u3).setCell ⟨b,4,none⟩ u4):=
 ((jc w b u0 u1 u2).step (zc.setCell [b] _ _ _ (List.mem_singleton.2 rfl))).step (zc.setCell [b] _ _ _ (List.mem_singleton.2 rfl))
theorem zgn(ho:oi.op=.alloc 50)(hz:w.heap.size=Z):(execOp ev oi).run Tryz.prog w=.ok (.value (pointer (some ⟨Z,0,none⟩))) (w.alloc (.cells #[int i64 0,.slice none 0 0,.slice none 0 0] 50)):=by
 subst hz;simp[execOp,ho,go_sem]
theorem zfq(ho:oi.op=.alloc 57)(hz:w.heap.size=Z):(execOp ev oi).run Tryz.prog w=.ok (.value (pointer (some ⟨Z,0,none⟩))) (w.alloc (.cells #[.slice none 0 0,int i64 0,int i64 0,int i64 0,int i64 0] 57)):=by
 subst hz;simp[execOp,ho,go_sem]
theorem zmM{q c n' c':Nat}{a a':Option Addr}{z0 z1 z2:Value}{u0:Int}{y z:Operand}(h:w.heap[q]? = some (.cells #[z0,z1,z2] 50 (0,0)))(ho:oi.op=.store 50 y z)(hy:ev y=pointer (some ⟨q,0,none⟩))(hz:ev z=agg #[int i64 u0,.slice a n c,.slice a' n' c']):(execOp ev oi).run Tryz.prog w=.ok .skip (((w.setCell ⟨q,0,none⟩ (int i64 u0)).setCell ⟨q,1,none⟩ (.slice a n c)).setCell ⟨q,2,none⟩ (.slice a' n' c')):=by
 have y0:=zi h 0;have y1:=zi h 1;have y2:=zi h 2;have x0:=zd h 0;have x1:=zd h 1;have x2:=zd h 2;simp[execOp,ho,hy,hz,go_sem,y0,y1,y2,x0,x1,x2]
theorem zmR{q c:Nat}{a:Option Addr}{z0 z1 z2 z3 z4:Value}{u1 u2 u3 u4:Int}{y z:Operand}(h:w.heap[q]? = some (.cells #[z0,z1,z2,z3,z4] 57 (0,0)))(ho:oi.op=.store 57 y z)(hy:ev y=pointer (some ⟨q,0,none⟩))(hz:ev z=agg #[.slice a n c,int i64 u1,int i64 u2,int i64 u3,int i64 u4]):(execOp ev oi).run Tryz.prog w=.ok .skip (((((w.setCell ⟨q,0,none⟩ (.slice a n c)).setCell ⟨q,1,none⟩ (int i64 u1)).setCell ⟨q,2,none⟩ (int i64 u2)).setCell ⟨q,3,none⟩ (int i64 u3)).setCell ⟨q,4,none⟩ (int i64 u4)):=by
 have y0:=zi h 0;have y1:=zi h 1;have y2:=zi h 2;have y3:=zi h 3;have y4:=zi h 4;have x0:=zd h 0;have x1:=zd h 1;have x2:=zd h 2;have x3:=zd h 3;have x4:=zd h 4;simp[execOp,ho,hy,hz,go_sem,y0,y1,y2,y3,y4,x0,x1,x2,x3,x4]
def Zl(o:Option (Int × Int × Int))(w:World)(e:Ending)(w':World):Prop:=e=.returned (.tuple #[agg #[int i64 (o.getD (-1,0,0)).1,int i64 (o.getD (-1,0,0)).2.1,int i64 (o.getD (-1,0,0)).2.2],.bool o.isNone])∧zc [] w w'
theorem Zl.no{o:Option (Int × Int × Int)}{a b c:Int}(h:o=some (a,b,c))(k:zc [] w w'):Zl o w (.returned (.tuple #[agg #[int i64 a,int i64 b,int i64 c],.bool false])) w':=by
 subst h;exact ⟨rfl,k⟩
theorem Zl.yes{o:Option (Int × Int × Int)}(h:o=none)(k:zc [] w w'):Zl o w (.returned (.tuple #[agg #[int i64 (-1),int i64 0,int i64 0],.bool true])) w':=by
 subst h;exact ⟨rfl,k⟩
theorem zeh(h:zB P=none):inB P.main P.funcs.length=true:=by
 have ht:=jU h;unfold zB at h;rw[if_pos ht] at h;cases hm:inB P.main P.funcs.length with
 | true=>rfl
 | false=>
  rw[hm] at h;split at h
  ·cases h
  ·simp at h
theorem zmD{f:Fu8}(h:inB f.sig P.sigs.length=true):Q9 P f=(decide ((Jd P f.sig).1.length≤f.regs.length) && (List.range (Jd P f.sig).1.length).all fun k=>tyE (f.regs.getD k (0,0)) ((Jd P f.sig).1.getD k (0,0))):=by
 unfold Q9;rw[ZX h];rfl
theorem zkh{g:Fu8→In8→Bool}{q:Nat × Nat × Nat}(hp:∀ f,f<P.funcs.length→Q9 P (zf P f)=true)(h:(pts P).find? (fun q=> !ptT P g q)=some q):ZW P g=some (ptI q):=by
 unfold ZW;rw[if_pos (List.all_eq_true.2 fun f hf=>hp f (List.mem_range.1 hf)),h]
theorem zf5{g:Fu8→In8→Bool}(hp:∀ f,f<P.funcs.length→Q9 P (zf P f)=true)(h:(pts P).find? (fun q=> !ptT P g q)=none):ZW P g=if ZD P then none else some (-1,0,0):=by
 unfold ZW;rw[if_pos (List.all_eq_true.2 fun f hf=>hp f (List.mem_range.1 hf)),h]
theorem zdU{pb po:Nat}(h:PrC w pb po P)(hr:Rt P):Calls Tryz.prog 78 #[pointer (some ⟨pb,po,none⟩)] w (Zl (ZW P (Zv P)) w):=by
 have ka:=zc.alloc [] w (.cells #[int i64 0,int i64 0,int i64 0] 99);have HN0:=hid (zh w (.cells #[int i64 0,int i64 0,int i64 0] 99));have FIN:=hid fun (W':World) (u0 u1 u2:Value) (k:zc [] (w.alloc (.cells #[int i64 0,int i64 0,int i64 0] 99)) W')=>(ka.quiet k).trans (jc W' w.heap.size u0 u1 u2) (fun x hx hl=>by simp at hx;omega);have HFIN:=hid fun (W':World) (k:zc [w.heap.size] (w.alloc (.cells #[int i64 0,int i64 0,int i64 0] 99)) W')=>ka.trans k (fun x hx hl=>by simp at hx;omega);have HP:=hid (PrC.stays _ _ _ _ _ ka h);have HR:=hid hr;have HT:=hid (zaC hr.bnd hr.nm);have HKA:=hid ka;clear h hr ka;obtain ⟨fa0,fp0,c4,fr,_,hfx⟩:=HP.o.c4;obtain ⟨sa0,sp0,c1,sr,_⟩:=HP.o.c1;have C1:Box (∀ w',zc [] (w.alloc (.cells #[int i64 0,int i64 0,int i64 0] 99)) w'→w'.cell? ⟨pb,po+1,none⟩=some (.slice sa0 P.sigs.length sp0)):=hid fun w' k=>za k c1;have C4:Box (∀ w',zc [] (w.alloc (.cells #[int i64 0,int i64 0,int i64 0] 99)) w'→w'.cell? ⟨pb,po+4,none⟩=some (.slice fa0 P.funcs.length fp0)):=hid fun w' k=>za k c4;have HFR:=hid fr;have HSR:=hid sr;unfold maxLen at hfx;clear c4 c1 fr sr;obtain ⟨FN,hFN⟩:∃ n,n=P.funcs.length:=⟨_,rfl⟩;have HFN:=hid hFN;rw[← hFN] at C4 hfx;clear hFN;go_enter Tryz.func78,Tryz.ntmps78;go_upto_region 1 with fail;generalize w.heap.size=bx at *;generalize w.alloc (.cells #[int i64 0,int i64 0,int i64 0] 99)=W at *;go_wp2_with fail
 go_loopw [4] (fun kv wr=>∃ k:Nat,k≤FN∧kv=int i64 (k:Int)∧Box (zc [] W wr)∧Box (∀ j,j<k→Q9 P (zf P j)=true)) (fun kv _=>FN - (intOf kv).toNat)
 case atStart=>exact ⟨0,by omega,rfl,hid (zc.refl _ _),hid fun j hj=>by omega⟩
 case round=>
  obtain ⟨F,hF,rfl,HK,HJ⟩:=hrel;have c4:=C4.o _ HK.o;by_cases hlt:F<FN
  ·have hlt':(F:Int)<(FN:Int):=by omega
   have hlt_F:(F:Int)<(FN:Int):=hlt';have hFl:F<P.funcs.length:=by rw[← HFN.o];exact hlt
   have hsg:=HT.o.fn F hFl;obtain ⟨fb,fo,rfl,t1⟩:=HFR.o.at (zg (l:=P.funcs) (k:=F) (d:=⟨0,[],[]⟩) hFl);have d0:=za HK.o t1.c0.1;obtain ⟨ra,rp,d1',rr,_,rx⟩:=t1.c1;have d1:=za HK.o d1';rw[show P.funcs.getD F ⟨0,[],[]⟩=zf P F from rfl] at d0 d1 rr rx;have HPB:=hid (zmD hsg);have HBADP:Box (Q9 P (zf P F)=false→ZW P (Zv P)=some (-1,0,0)):=hid fun e=>zfS hFl e;obtain ⟨R,hRn⟩:∃ n,n=(zf P F).regs.length:=⟨_,rfl⟩;rw[← hRn] at d1 HPB rx;have HRN:=hid hRn;have HRR:=hid rr;obtain ⟨sn,hsn⟩:∃ z,z=(zf P F).sig:=⟨_,rfl⟩;rw[← hsn] at d0 HPB hsg;clear hsn hRn rr d1' t1 hFl;obtain ⟨s0',s1'⟩:=zt.1 hsg;obtain ⟨J,rfl⟩:∃ J:Nat,sn=(J:Int):=⟨sn.toNat,by omega⟩;obtain ⟨sb,so,rfl,t2⟩:=HSR.o.at (zg (l:=P.sigs) (k:=J) (d:=([],0,0)) (by omega));have hlt_J:(J:Int)<(P.sigs.length:Int):=s1';have c1:=C1.o _ HK.o;obtain ⟨ta,tp,e0',tr,_,tx⟩:=t2.c0;have e0:=za HK.o e0';unfold Jd at HPB;rw[Int.toNat_natCast] at HPB;have HTR:=hid tr;generalize (P.sigs.getD J ([],0,0)).1=L at *;generalize P.sigs.length=SN at *;obtain ⟨M,hM⟩:∃ n,n=L.length:=⟨_,rfl⟩;rw[← hM] at e0 HPB tx;have HM:=hid hM;unfold maxLen at tx rx;clear t2 e0' tr hM s0' s1' hsg;go_upto_region 4 with fail;refine zm (W0:=wr) 193 [pointer (some ⟨pb,po,none⟩),pointer (some ⟨pb,po,none⟩),pointer (some ⟨pb,po+1,none⟩),.slice (some ⟨sb,so,none⟩) SN sp0,pointer (some ⟨pb,po,none⟩),pointer (some ⟨pb,po,none⟩),pointer (some ⟨pb,po+4,none⟩),.slice (some ⟨fb,fo,none⟩) FN fp0,int i64 (F:Int),pointer (some ⟨fb,fo+F * 3,none⟩),pointer (some ⟨fb,fo+F * 3,none⟩),int i64 (J:Int),pointer (some ⟨sb,so+J * 3,none⟩),pointer (some ⟨sb,so+J * 3,none⟩),.slice ta M tp,.slice ta M tp] (by kernel_rfl) (by rfl) (by kernel_rfl) (zc.refl _ _) (fun A hA=> ?_);simp only[zv,Act.put,sTA,sC0,sCS] at hA;subst hA;refine ⟨gR (gR (gR (gY (fun _ k9=>q7 (za k9 c1) rfl rfl) (gR (gR (gR (gY (fun _ k9=>ja (za k9 c4) rfl rfl) (gR (gY (fun _ _=>jO rfl rfl rfl hlt_F) (gR (gY (fun _ k9=>zI (za k9 d0) rfl rfl) (gY (fun _ _=>jH rfl rfl rfl hlt_J) (gR (gY (fun _ k9=>zH (za k9 e0) rfl rfl) (gR (zk.nil)))))))))))))))),fun w8 k8=> ?_⟩;have K4:=hid (HK.o.quiet k8);replace c4:=za k8 c4;replace d1:=za k8 d1;have C41:=hid (And.intro c4 d1);clear k8 e0 c1 d0;by_cases hML:M≤R
   case neg=>
    have hd:decide ((R:Int)<(M:Int))=true:=decide_eq_true (by omega);have HF:Box (ZW P (Zv P)=some (-1,0,0)):=hid (HBADP.o (by rw[HPB.o,decide_eq_false hML];rfl));go_wp2_with (go_at_call 75;refine (zV _).mono ?_;rintro e w6 ⟨rfl,k6⟩;have hb6:=ze HN0.o (K4.o.quiet k6);have K6:=hid (K4.o.quiet k6);have y0:=zi hb6 0;have y1:=zi hb6 1;have y2:=zi hb6 2;have x0:=zd hb6 0;have x1:=zd hb6 1;have x2:=zd hb6 2;have HB6:=hid hb6;clear hb6 k6);have h3:=jZ HB6.o (int i64 (-1)) (int i64 0) (int i64 0);have e0:=zd h3 0;have e1:=zd h3 1;have e2:=zd h3 2;exact bodyPost_ret (v:=.tuple #[agg #[int i64 (-1),int i64 0,int i64 0],.bool false]) (by simp[results,Tryz.results78,go_sem,e0,e1,e2]) rfl (Zl.no HF.o (FIN.o _ _ _ _ K6.o))
   have hd:decide ((R:Int)<(M:Int))=false:=decide_eq_false (by omega);go_wp2_with fail;clear c4 d1 hd
   go_loopw [6] (fun kv wy=>∃ k:Nat,k≤M∧kv=int i64 (k:Int)∧Box (zc [] W wy∧wy.cell? ⟨pb,po+4,none⟩=some (.slice (some ⟨fb,fo,none⟩) FN fp0)∧wy.cell? ⟨fb,fo+F * 3+1,none⟩=some (.slice ra R rp))∧Box (∀ j,j<k→tyE ((zf P F).regs.getD j (0,0)) (L.getD j (0,0))=true)) (fun kv _=>M - (intOf kv).toNat)
   case atStart=>exact ⟨0,by omega,rfl,hid ⟨K4.o,C41.o.1,C41.o.2⟩,hid fun j hj=>by omega⟩
   case round=>
    obtain ⟨V,hV,rfl,HKY,HJ2⟩:=hrel;by_cases hlt2:V<M
    case neg=>
     obtain rfl:V=M:=by omega
     have HTT:Box (Q9 P (zf P F)=true):=hid (by
      rw[HPB.o,decide_eq_true hML,Bool.true_and,List.all_eq_true]
      exact fun j hj=>HJ2.o j (List.mem_range.1 hj))
     go_wp2_with fail;go_roundw
     case rel=>
      refine ⟨F+1,by omega,by go_num,hid HKY.o.1,hid fun j hj=> ?_⟩;by_cases hjf:j=F
      ·subst hjf
       exact HTT.o
      ·exact HJ.o j (by omega)
     case measure=>simp[intOf];omega
    have hlt2':(V:Int)<(M:Int):=by omega
    have hlt_V:(V:Int)<(M:Int):=hlt2';have hlt_VR:(V:Int)<(R:Int):=by omega
    obtain ⟨rb,ro,rfl,t1⟩:=HRR.o.at (zg (l:=(zf P F).regs) (k:=V) (d:=(0,0)) (by rw[← HRN.o];omega));obtain ⟨tb,tq,rfl,t2⟩:=HTR.o.at (zg (l:=L) (k:=V) (d:=(0,0)) (by rw[← HM.o];omega));have c4:=HKY.o.2.1;have d1:=HKY.o.2.2;have n0:=za HKY.o.1 t1.c0.1;have n1:=za HKY.o.1 t1.c1.1;have o0:=za HKY.o.1 t2.c0.1;have o1:=za HKY.o.1 t2.c1.1;clear t1 t2;obtain ⟨a1,ha1⟩:∃ x,x=(zf P F).regs.getD V (0,0):=⟨_,rfl⟩;obtain ⟨a2,ha2⟩:∃ x,x=L.getD V (0,0):=⟨_,rfl⟩;rw[← ha1] at n0 n1;rw[← ha2] at o0 o1;have HA:=hid (And.intro ha1 ha2);clear ha1 ha2;have HE3:=hid fun (w':World)=>Z0 a1 a2 w';unfold tyV at HE3;go_upto_region 10 with fail;cases hz:tyE a1 a2 with
    | true=>
     rw[hz] at HE3;have HZT:=hid hz;refine zm (W0:=wr) 193 [pointer (some ⟨pb,po,none⟩),pointer (some ⟨pb,po,none⟩),pointer (some ⟨pb,po+4,none⟩),.slice (some ⟨fb,fo,none⟩) FN fp0,int i64 (F:Int),pointer (some ⟨fb,fo+F * 3,none⟩),pointer (some ⟨fb,fo+F * 3+1,none⟩),.slice (some ⟨rb,ro,none⟩) R rp,int i64 (V:Int),pointer (some ⟨rb,ro+V * 2,none⟩),agg #[int i64 a1.1,int i64 a1.2],.slice (some ⟨tb,tq,none⟩) M tp,int i64 (V:Int),pointer (some ⟨tb,tq+V * 2,none⟩),agg #[int i64 a2.1,int i64 a2.2],.bool true,.bool false] (by kernel_rfl) (by rfl) (by kernel_rfl) (zc.refl _ _) (fun A hA=> ?_);simp only[zv,Act.put,sTA,sC0,sCS] at hA;subst hA;refine ⟨gR (gR (gR (gY (fun _ k9=>ja (za k9 c4) rfl rfl) (gR (gY (fun _ _=>jO rfl rfl rfl hlt_F) (gR (gY (fun _ k9=>zH (za k9 d1) rfl rfl) (gR (gY (fun _ _=>jx rfl rfl rfl hlt_VR) (gY (fun _ k9=>zZ (za k9 n0) (za k9 n1) rfl rfl) (gR (gR (gY (fun _ _=>jx rfl rfl rfl hlt_V) (gY (fun _ k9=>zZ (za k9 o0) (za k9 o1) rfl rfl) (zk.cons (zn (by rfl) 113 #[agg #[int i64 a1.1,int i64 a1.2],agg #[int i64 a2.1,int i64 a2.2]] (fun w=>qq rfl rfl rfl rfl (qU _ _ w)) (fun w9 _=>HE3.o w9)) (gY (fun _ _=>J4 rfl rfl) (zk.nil))))))))))))))))),fun w8 k8=> ?_⟩;have K9:=hid k8;clear c4 d1 n0 n1 o0 o1 k8;go_wp2_with fail;go_roundw
     case rel=>
      refine ⟨V+1,by omega,by go_num,hid ⟨HKY.o.1.quiet K9.o,za K9.o HKY.o.2.1,za K9.o HKY.o.2.2⟩,hid fun j hj=> ?_⟩;by_cases hjv:j=V
      ·subst hjv
       rw[← HA.o.1, ← HA.o.2];exact HZT.o
      ·exact HJ2.o j (by omega)
     case measure=>simp[intOf];omega
    | false=>
     rw[hz] at HE3
     have HF:Box (ZW P (Zv P)=some (-1,0,0)):=hid (HBADP.o (by
      rw[HPB.o,zdM hlt2 (by rw[← HA.o.1, ← HA.o.2];exact hz)]
      simp))
     refine zm (W0:=wr) 193 [pointer (some ⟨pb,po,none⟩),pointer (some ⟨pb,po,none⟩),pointer (some ⟨pb,po+4,none⟩),.slice (some ⟨fb,fo,none⟩) FN fp0,int i64 (F:Int),pointer (some ⟨fb,fo+F * 3,none⟩),pointer (some ⟨fb,fo+F * 3+1,none⟩),.slice (some ⟨rb,ro,none⟩) R rp,int i64 (V:Int),pointer (some ⟨rb,ro+V * 2,none⟩),agg #[int i64 a1.1,int i64 a1.2],.slice (some ⟨tb,tq,none⟩) M tp,int i64 (V:Int),pointer (some ⟨tb,tq+V * 2,none⟩),agg #[int i64 a2.1,int i64 a2.2],.bool false,.bool true] (by kernel_rfl) (by rfl) (by kernel_rfl) (zc.refl _ _) (fun A hA=> ?_);simp only[zv,Act.put,sTA,sC0,sCS] at hA;subst hA;refine ⟨gR (gR (gR (gY (fun _ k9=>ja (za k9 c4) rfl rfl) (gR (gY (fun _ _=>jO rfl rfl rfl hlt_F) (gR (gY (fun _ k9=>zH (za k9 d1) rfl rfl) (gR (gY (fun _ _=>jx rfl rfl rfl hlt_VR) (gY (fun _ k9=>zZ (za k9 n0) (za k9 n1) rfl rfl) (gR (gR (gY (fun _ _=>jx rfl rfl rfl hlt_V) (gY (fun _ k9=>zZ (za k9 o0) (za k9 o1) rfl rfl) (zk.cons (zn (by rfl) 113 #[agg #[int i64 a1.1,int i64 a1.2],agg #[int i64 a2.1,int i64 a2.2]] (fun w=>qq rfl rfl rfl rfl (qU _ _ w)) (fun w9 _=>HE3.o w9)) (gY (fun _ _=>J4 rfl rfl) (zk.nil))))))))))))))))),fun w8 k8=> ?_⟩;have K9:=hid (HKY.o.1.quiet k8);clear c4 d1 n0 n1 o0 o1 k8;go_wp2_with (go_at_call 75;refine (zV _).mono ?_;rintro e w6 ⟨rfl,k6⟩;have hb6:=ze HN0.o (K9.o.quiet k6);have K6:=hid (K9.o.quiet k6);have y0:=zi hb6 0;have y1:=zi hb6 1;have y2:=zi hb6 2;have x0:=zd hb6 0;have x1:=zd hb6 1;have x2:=zd hb6 2;have HB6:=hid hb6;clear hb6 k6);have h3:=jZ HB6.o (int i64 (-1)) (int i64 0) (int i64 0);have e0:=zd h3 0;have e1:=zd h3 1;have e2:=zd h3 2;exact bodyPost_ret (v:=.tuple #[agg #[int i64 (-1),int i64 0,int i64 0],.bool false]) (by simp[results,Tryz.results78,go_sem,e0,e1,e2]) rfl (Zl.no HF.o (FIN.o _ _ _ _ K6.o))
  obtain rfl:F=FN:=by omega
  have HPAR:Box (∀ f,f<P.funcs.length→Q9 P (zf P f)=true):=hid fun f hf=>HJ.o f (by rw[HFN.o];exact hf);have HPO:=hid (Z1 (PrC.stays _ _ _ _ _ HK.o HP.o) HR.o.sm);have hpl:=HR.o.sm.pt;have HBK:=hid fun (n:Nat) (hn:n<(pts P).length)=>zcq hn;obtain ⟨N,hNe⟩:∃ N,(pts P).length=N:=⟨_,rfl⟩;have HN:=hid hNe;rw[hNe] at HPO HBK hpl;clear hNe;go_wp2_with fail;refine HPO.o.mono ?_;rintro e w1 ⟨la,lcp,rfl,hrows,k1⟩;clear c4;have HRO:=hid hrows;have HK1:=hid (HK.o.quiet k1);clear hrows k1 HPO;go_wp2_with fail
  go_loopw [8] (fun i wr=>∃ n:Nat,n≤N∧i=int i64 (n:Int)∧Box (zc [] w1 wr)∧Box (ZK (fun q=> !ptT P (Zv P) q) ((pts P).take n))) (fun i _=>N - (intOf i).toNat)
  case atStart=>exact ⟨0,by omega,rfl,hid (zc.refl _ _),hid (by rw[List.take_zero];exact ZK.nil _)⟩
  case round=>
   obtain ⟨n,hn,rfl,HK2,HW⟩:=hrel;have KW:=hid (HK1.o.quiet HK2.o);by_cases hlt:n<N
   case neg=>
    obtain rfl:n=N:=by omega
    have HFD:Box ((pts P).find? (fun q=> !ptT P (Zv P) q)=none):=hid (ZN (by have:=HW.o;rw[← HN.o,List.take_length] at this;exact this));have HCK:Box (ZW P (Zv P)=if ZD P then none else some (-1,0,0)):=hid (zf5 HPAR.o HFD.o);have hmain:inB P.main P.funcs.length=true:=zeh HR.o.nm
    have HMB:Box (ZD P=(decide ((Jd P (zf P P.main.toNat).sig).1.length=0) && decide ((Jd P (zf P P.main.toNat).sig).2.1=0))):=hid (by
     unfold ZD;rw[if_pos hmain,ZX (HT.o.fn _ (by have:=zt.1 hmain;omega))]
     rfl)
    have c4:=C4.o _ KW.o;have c1:=C1.o _ KW.o;have c5:=za KW.o HP.o.c5.1;obtain ⟨m0',m1'⟩:=zt.1 hmain;obtain ⟨mn,hmn⟩:∃ k:Nat,P.main=(k:Int):=⟨P.main.toNat,by omega⟩;rw[hmn] at c5 HMB;rw[Int.toNat_natCast] at HMB;have hml:mn<P.funcs.length:=by omega
    have hlt_mn:(mn:Int)<(F:Int):=by rw[HFN.o];omega
    have hsg:=HT.o.fn mn hml;obtain ⟨fb,fo,rfl,t1⟩:=HFR.o.at (zg (l:=P.funcs) (k:=mn) (d:=⟨0,[],[]⟩) hml);rw[show P.funcs.getD mn ⟨0,[],[]⟩=zf P mn from rfl] at t1;have d0:=za KW.o t1.c0.1;obtain ⟨sg,hsge⟩:∃ z,z=(zf P mn).sig:=⟨_,rfl⟩;rw[← hsge] at d0 hsg HMB;obtain ⟨s0',s1'⟩:=zt.1 hsg;obtain ⟨J,rfl⟩:∃ J:Nat,sg=(J:Int):=⟨sg.toNat,by omega⟩;obtain ⟨sb,so,rfl,t2⟩:=HSR.o.at (zg (l:=P.sigs) (k:=J) (d:=([],0,0)) (by omega));have hlt_J:(J:Int)<(P.sigs.length:Int):=s1';unfold Jd at HMB;rw[Int.toNat_natCast] at HMB;obtain ⟨ta,tp,e0',_⟩:=t2.c0;have e0:=za KW.o e0';have e1:=za KW.o t2.c1.1;have e2:=za KW.o t2.c2.1;clear t1 t2 e0' s0' s1' hsge hsg hml hmn m0' m1' hmain;generalize P.sigs.getD J ([],0,0)=S1 at *;obtain ⟨L,t1,t2⟩:=S1;simp only at e0 e1 e2 HMB;obtain ⟨M,hM⟩:∃ z,z=L.length:=⟨_,rfl⟩;rw[← hM] at e0 HMB;clear hM;generalize P.sigs.length=SN at *;go_upto_region 26 with fail;obtain ⟨Z,hZ⟩:∃ Z,Z=wr.heap.size:=⟨_,rfl⟩;refine jz (fun w'=>zc [] wr w') (zbj Z 17 18 59 #[.slice none 0 0,int i64 0,int i64 0] #[.slice ta M tp,int i64 t1,int i64 t2]) 193 [pointer (some ⟨pb,po,none⟩),pointer (some ⟨pb,po,none⟩),pointer (some ⟨pb,po+1,none⟩),.slice (some ⟨sb,so,none⟩) SN sp0,pointer (some ⟨pb,po,none⟩),pointer (some ⟨pb,po,none⟩),pointer (some ⟨pb,po+4,none⟩),.slice (some ⟨fb,fo,none⟩) F fp0,pointer (some ⟨pb,po,none⟩),pointer (some ⟨pb,po,none⟩),pointer (some ⟨pb,po+5,none⟩),int i64 (mn:Int),pointer (some ⟨fb,fo+mn * 3,none⟩),pointer (some ⟨fb,fo+mn * 3,none⟩),int i64 (J:Int),pointer (some ⟨sb,so+J * 3,none⟩),agg #[.slice ta M tp,int i64 t1,int i64 t2],pointer (some ⟨Z,0,none⟩),undef] (by kernel_rfl) (by rfl) (by kernel_rfl) (zc.drew [] _) (zbj.start hZ.symm) (fun A hA=> ?_);simp only[zv,Act.put,sTA,sC0,sCS] at hA;subst hA;refine ⟨gFR (gFR (gFR (gFY (fun _ k9=>q7 (za k9 c1) rfl rfl) (gFR (gFR (gFR (gFY (fun _ k9=>ja (za k9 c4) rfl rfl) (gFR (gFR (gFR (gFY (fun _ k9=>zI (za k9 c5) rfl rfl) (gFY (fun _ _=>jO rfl rfl rfl hlt_mn) (gFR (gFY (fun _ k9=>zI (za k9 d0) rfl rfl) (gFY (fun _ _=>jH rfl rfl rfl hlt_J) (gFY (fun _ k9=>zck (za k9 e0) (za k9 e1) (za k9 e2) rfl rfl) (zK.cons (.inl ⟨by rfl,fun l w9 hi9 hu9 _ hs9 he9=>.inl ⟨_,jS rfl (he9.make (by decide) hu9 hi9).1,hs9.quiet (zc.alloc [] _ _),(he9.make (by decide) hu9 hi9).2⟩⟩) (zK.cons (Je (by rfl) (fun l w9 hi9 hu9 hp9 hs9 he9=>by have hb:l.getD 17 false=true:=hp9 ⟨17,.data⟩ (by simp) rfl;have hh:=he9.row hb hu9;exact ⟨_,zcj hh rfl rfl rfl,hs9.trans (jc _ _ _ _ _) (fun x hx hl=>by simp at hx;omega),he9.put (by decide) hb hi9 (by simp) (jZ hh _ _ _)⟩)) (zK.nil))))))))))))))))))),fun l w8 hl8 k8 h8=> ?_⟩;have hrow:=h8.fst (hl8 17 (by decide));rw[hl8 18 (by decide)] at hrow;simp only[cond_true] at hrow;clear h8 hl8;have KZ:=hid (KW.o.quiet k8);have HQD:=hid hrow;have HB8:=hid (ze HN0.o (KW.o.quiet k8));clear k8 hrow c4 c1 c5 d0 e0 e1 e2 hZ;obtain ⟨q14,hq14⟩:∃ z,z=Z:=⟨_,rfl⟩;rw[← hq14] at HQD ⊢;clear hq14;have m0:w8.cell? ⟨q14,0,none⟩=some (.slice ta M tp):=zd HQD.o 0;have m1:w8.cell? ⟨q14,1,none⟩=some (int i64 t1):=zd HQD.o 1
    have FIN2:Box (∀ (W':World) (u0 u1 u2:Value),zc [bx] w8 W'→zc [bx] w8 (((W'.setCell ⟨bx,0,none⟩ u0).setCell ⟨bx,1,none⟩ u1).setCell ⟨bx,2,none⟩ u2)):=hid fun W' u0 u1 u2 k=>k.step (jc _ _ _ _ _);have FIN3:Box (∀ W',zc [bx] w8 W'→zc [] w W'):=hid fun W' k=>HFIN.o W' ((KZ.o.mono (by simp)).step k);go_upto_region 27 with fail
    have HBQ:Box (q14 ∉ [bx]):=hid (by
     have h1:=HQD.o;have h2:=HB8.o;simp only[List.mem_singleton];intro e;rw[e,h2] at h1
     simp at h1)
    by_cases hM0:M=0
    ·have hm0:((M:Int) == 0)=true:=by rw[hM0];rfl
     have HMB2:Box (ZD P=(t1 == 0)):=hid (by
      rw[HMB.o,decide_eq_true hM0,Bool.true_and]
      by_cases h:t1=0 <;> simp[h])
     refine jy (fun w'=>zc [bx] w8 w') (ptE bx) 193 [agg #[int i64 (-1),int i64 0,int i64 0],pointer (some ⟨q14,0,none⟩),.slice ta M tp,int i64 (M:Int),.bool true,.bool true,pointer (some ⟨q14,1,none⟩),pointer (some ⟨q14,1,none⟩),int i64 t1,.bool (t1 == 0),.bool (t1 == 0),undef,.bool (t1 == 0)] (by kernel_rfl) (by rfl) (by kernel_rfl) (zc.drew [bx] _) (ptE.start (ze HB8.o (zc.drew [] _))) (fun A hA=> ?_);simp only[zv,Act.put,sTA,sC0,sCS] at hA;subst hA;refine ⟨zC.cons (Qf (by rfl) 75 #[] (fun w=>zjx rfl rfl (Z9 w)) (fun l w9 _ hs9 he9=>(zV w9).mono (fun e w8 h8=>⟨h8.1,hs9.step (h8.2.mono (by simp)),(he9.quiet h8.2).keep (by decide)⟩))) (gER (gEY (fun w9 k9=>zH ((k9.cell (block_lt_of_cell m0) HBQ.o).trans m0) rfl rfl) (gEY (fun _ _=>qy rfl rfl) (gEY (fun _ _=>zgR rfl rfl rfl hm0) (gER (gER (gER (gEY (fun w9 k9=>zI ((k9.cell (block_lt_of_cell m1) HBQ.o).trans m1) rfl rfl) (gEY (fun _ _=>zgR rfl rfl rfl rfl) (gER (zC.cons (Qc (by rfl) (fun l w9 hi9 hs9 he9=>⟨_,(he9.put hi9 rfl rfl rfl).1,FIN2.o _ _ _ _ hs9,he9.put2 hi9⟩)) (gER (zC.nil))))))))))))),fun l w10 hl10 k10 h10=> ?_⟩;have h9:=h10.all (hl10 11 (by decide));have K10:=hid k10;have H9:=hid h9;clear h10 h9 hl10 k10;cases hb:(t1 == 0) with
     | true=>
      have HQ2:Box (ZW P (Zv P)=none):=hid (by rw[HCK.o,HMB2.o,hb];rfl);clear hb;go_wp2_with fail;have e0:=zd H9.o 0;have e1:=zd H9.o 1;have e2:=zd H9.o 2;exact bodyPost_ret (v:=.tuple #[agg #[int i64 (-1),int i64 0,int i64 0],.bool true]) (by simp[results,Tryz.results78,go_sem,e0,e1,e2]) rfl (Zl.yes HQ2.o (FIN3.o _ K10.o))
     | false=>
      have HQ2:Box (ZW P (Zv P)=some (-1,0,0)):=hid (by rw[HCK.o,HMB2.o,hb];rfl);clear hb;go_wp2_with fail;have e0:=zd H9.o 0;have e1:=zd H9.o 1;have e2:=zd H9.o 2;exact bodyPost_ret (v:=.tuple #[agg #[int i64 (-1),int i64 0,int i64 0],.bool false]) (by simp[results,Tryz.results78,go_sem,e0,e1,e2]) rfl (Zl.no HQ2.o (FIN3.o _ K10.o))
    ·have hm0:((M:Int) == 0)=false:=by rw[beq_eq_false_iff_ne];omega
     have HQ2:Box (ZW P (Zv P)=some (-1,0,0)):=hid (by rw[HCK.o,HMB.o,decide_eq_false hM0];rfl);refine jy (fun w'=>zc [bx] w8 w') (ptE bx) 193 [agg #[int i64 (-1),int i64 0,int i64 0],pointer (some ⟨q14,0,none⟩),.slice ta M tp,int i64 (M:Int),.bool false,.bool false,undef,undef,undef,undef,.bool false,undef,.bool false] (by kernel_rfl) (by rfl) (by kernel_rfl) (zc.drew [bx] _) (ptE.start (ze HB8.o (zc.drew [] _))) (fun A hA=> ?_);simp only[zv,Act.put,sTA,sC0,sCS] at hA;subst hA;refine ⟨zC.cons (Qf (by rfl) 75 #[] (fun w=>zjx rfl rfl (Z9 w)) (fun l w9 _ hs9 he9=>(zV w9).mono (fun e w8 h8=>⟨h8.1,hs9.step (h8.2.mono (by simp)),(he9.quiet h8.2).keep (by decide)⟩))) (gER (gEY (fun w9 k9=>zH ((k9.cell (block_lt_of_cell m0) HBQ.o).trans m0) rfl rfl) (gEY (fun _ _=>qy rfl rfl) (gEY (fun _ _=>zgR rfl rfl rfl hm0) (gER (zC.cons (Qe (by rfl) (fun _ _ h=>h.keep (by decide))) (zC.cons (Qe (by rfl) (fun _ _ h=>h.keep (by decide))) (zC.cons (Qe (by rfl) (fun _ _ h=>h.keep (by decide))) (zC.cons (Qe (by rfl) (fun _ _ h=>h.keep (by decide))) (gER (zC.cons (Qc (by rfl) (fun l w9 hi9 hs9 he9=>⟨_,(he9.put hi9 rfl rfl rfl).1,FIN2.o _ _ _ _ hs9,he9.put2 hi9⟩)) (gER (zC.nil))))))))))))),fun l w10 hl10 k10 h10=> ?_⟩;have h9:=h10.all (hl10 11 (by decide));have K10:=hid k10;have H9:=hid h9;clear h10 h9 hl10 k10;go_wp2_with fail;have e0:=zd H9.o 0;have e1:=zd H9.o 1;have e2:=zd H9.o 2;exact bodyPost_ret (v:=.tuple #[agg #[int i64 (-1),int i64 0,int i64 0],.bool false]) (by simp[results,Tryz.results78,go_sem,e0,e1,e2]) rfl (Zl.no HQ2.o (FIN3.o _ K10.o))
   have hlt':(n:Int)<(N:Int):=by omega
   have hlt_n:(n:Int)<(N:Int):=hlt';obtain ⟨f,b,i,hp,hq⟩:=HBK.o n hlt;obtain ⟨lb,lo,rfl,hpc⟩:=HRO.o.at hq;have CP:Box (∀ w',zc [] w1 w'→w'.cell? ⟨lb,lo+n * 3,none⟩=some (int i64 (f:Int))∧w'.cell? ⟨lb,lo+n * 3+1,none⟩=some (int i64 (b:Int))∧w'.cell? ⟨lb,lo+n * 3+2,none⟩=some (int i64 (i:Int))):=hid fun w' k=>⟨za k hpc.c0,za k hpc.c1,za k hpc.c2⟩
   have HTK:Box ((pts P).take (n+1)=(pts P).take n ++ [(f,b,i)]):=hid (by
    have:=qe (pts P) n (0,0,0) (by rw[HN.o];exact hlt);rw[List.getD_eq_getElem?_getD,hq] at this
    exact this)
   have HQ:=hid hq;have HIP:=hid hp;obtain ⟨hp1,hp2,hp3⟩:=hp;have hF1:f<F:=by rw[HFN.o];exact hp1
   have hlt_f:(f:Int)<(F:Int):=by omega
   obtain ⟨fb,fo,rfl,t1⟩:=HFR.o.at (zg (l:=P.funcs) (k:=f) (d:=⟨0,[],[]⟩) hp1);rw[show P.funcs.getD f ⟨0,[],[]⟩=zf P f from rfl] at t1;obtain ⟨ra,rp,g1',rr,_⟩:=t1.c1;obtain ⟨ba,bp,g2',br,_⟩:=t1.c2;have g0:=za KW.o t1.c0.1;have g1:=za KW.o g1';have g2:=za KW.o g2';have HRR:=hid rr;obtain ⟨bb,bo,rfl,t2⟩:=br.at (zg (l:=(zf P f).blocks) (k:=b) (d:=⟨[],0,0,0,0⟩) hp2);rw[show (zf P f).blocks.getD b ⟨[],0,0,0,0⟩=zr (zf P f) b from rfl] at t2;obtain ⟨ca,cp,b0',_⟩:=t2.c0;have B0:=hid (za HK1.o b0');have B1:=hid (za HK1.o t2.c1.1);have B2:=hid (za HK1.o t2.c2.1);have B3:=hid (za HK1.o t2.c3.1);have B4:=hid (za HK1.o t2.c4.1);clear t1 t2 rr br g1' g2' b0' hq hpc;have hlt_b:(b:Int)<((zf P f).blocks.length:Int):=by omega
   obtain ⟨R,hRn⟩:∃ z,z=(zf P f).regs.length:=⟨_,rfl⟩;obtain ⟨BN,hBN⟩:∃ z,z=(zf P f).blocks.length:=⟨_,rfl⟩;obtain ⟨sg,hsg⟩:∃ z,z=(zf P f).sig:=⟨_,rfl⟩;rw[← hRn] at g1;rw[← hBN] at g2 hlt_b;rw[← hsg] at g0;have HRN:=hid hRn;have HSGE:=hid hsg;clear hRn hBN hsg;obtain ⟨y,hy⟩:∃ z,z=zr (zf P f) b:=⟨_,rfl⟩;rw[← hy] at B0 B1 B2 B3 B4;have HYE:=hid hy;clear hy;obtain ⟨CN,hCN⟩:∃ z,z=y.code.length:=⟨_,rfl⟩;rw[← hCN] at B0;have HCN:=hid hCN;clear hCN;have c4:=C4.o _ KW.o;obtain ⟨p0,p1,p2⟩:=CP.o _ HK2.o;go_upto_region 16 with fail;obtain ⟨Z,hZ⟩:∃ Z,Z=wr.heap.size:=⟨_,rfl⟩;refine jz (fun w'=>zc [] wr w') (zbj Z 11 12 50 #[int i64 0,.slice none 0 0,.slice none 0 0] #[int i64 sg,.slice ra R rp,.slice (some ⟨bb,bo,none⟩) BN bp]) 193 [pointer (some ⟨pb,po,none⟩),pointer (some ⟨pb,po,none⟩),pointer (some ⟨pb,po+4,none⟩),.slice (some ⟨fb,fo,none⟩) F fp0,.slice (some ⟨lb,lo,none⟩) N lcp,int i64 (n:Int),pointer (some ⟨lb,lo+n * 3,none⟩),pointer (some ⟨lb,lo+n * 3,none⟩),int i64 (f:Int),pointer (some ⟨fb,fo+f * 3,none⟩),agg #[int i64 sg,.slice ra R rp,.slice (some ⟨bb,bo,none⟩) BN bp],pointer (some ⟨Z,0,none⟩),undef] (by kernel_rfl) (by rfl) (by kernel_rfl) (zc.drew [] _) (zbj.start hZ.symm) (fun A hA=> ?_);simp only[zv,Act.put,sTA,sC0,sCS] at hA;subst hA;refine ⟨gFR (gFR (gFR (gFY (fun _ k9=>ja (za k9 c4) rfl rfl) (gFR (gFR (gFY (fun _ _=>zfs rfl rfl rfl hlt_n) (gFR (gFY (fun _ k9=>zI (za k9 p0) rfl rfl) (gFY (fun _ _=>jO rfl rfl rfl hlt_f) (gFY (fun _ k9=>zlH (za k9 g0) (za k9 g1) (za k9 g2) rfl rfl) (zK.cons (.inl ⟨by rfl,fun l w9 hi9 hu9 _ hs9 he9=>.inl ⟨_,zgn rfl (he9.make (by decide) hu9 hi9).1,hs9.quiet (zc.alloc [] _ _),(he9.make (by decide) hu9 hi9).2⟩⟩) (zK.cons (Je (by rfl) (fun l w9 hi9 hu9 hp9 hs9 he9=>by have hb:l.getD 11 false=true:=hp9 ⟨11,.data⟩ (by simp) rfl;have hh:=he9.row hb hu9;exact ⟨_,zmM hh rfl rfl rfl,hs9.trans (jc _ _ _ _ _) (fun x hx hl=>by simp at hx;omega),he9.put (by decide) hb hi9 (by simp) (jZ hh _ _ _)⟩)) (zK.nil))))))))))))),fun l w8 hl8 k8 h8=> ?_⟩;have hrow:=h8.fst (hl8 11 (by decide));rw[hl8 12 (by decide)] at hrow;simp only[cond_true] at hrow;clear h8 hl8;have K4:=hid (HK2.o.quiet k8);have HQ9:=hid hrow;clear k8 hrow c4 g0 g1 g2 p0 p1 p2 hZ;generalize w8=w4 at *;obtain ⟨q9,hq9⟩:∃ z,z=Z:=⟨_,rfl⟩;rw[← hq9] at HQ9 ⊢;clear hq9;have f2:=zd HQ9.o 2;obtain ⟨p0,p1,p2⟩:=CP.o _ K4.o;have b0:=za K4.o B0.o;have b1:=za K4.o B1.o;have b2:=za K4.o B2.o;have b3:=za K4.o B3.o;have b4:=za K4.o B4.o;go_upto_region 17 with fail;obtain ⟨Z,hZ⟩:∃ Z,Z=w4.heap.size:=⟨_,rfl⟩;refine jz (fun w'=>zc [] w4 w') (zbj Z 9 10 57 #[.slice none 0 0,int i64 0,int i64 0,int i64 0,int i64 0] #[.slice ca CN cp,int i64 y.fin,int i64 y.reg,int i64 y.to,int i64 y.els]) 193 [pointer (some ⟨q9,2,none⟩),.slice (some ⟨bb,bo,none⟩) BN bp,.slice (some ⟨lb,lo,none⟩) N lcp,int i64 (n:Int),pointer (some ⟨lb,lo+n * 3,none⟩),pointer (some ⟨lb,lo+n * 3+1,none⟩),int i64 (b:Int),pointer (some ⟨bb,bo+b * 5,none⟩),agg #[.slice ca CN cp,int i64 y.fin,int i64 y.reg,int i64 y.to,int i64 y.els],pointer (some ⟨Z,0,none⟩),undef] (by kernel_rfl) (by rfl) (by kernel_rfl) (zc.drew [] _) (zbj.start hZ.symm) (fun A hA=> ?_)
   simp only[zv,Act.put,sTA,sC0,sCS] at hA;subst hA;refine ⟨gFR (gFY (fun _ k9=>zlm (za k9 f2) rfl rfl) (gFR (gFR (gFY (fun _ _=>zfs rfl rfl rfl hlt_n) (gFR (gFY (fun _ k9=>zI (za k9 p1) rfl rfl) (gFY (fun _ _=>zkY rfl rfl rfl hlt_b) (gFY (fun _ k9=>zmO (za k9 b0) (za k9 b1) (za k9 b2) (za k9 b3) (za k9 b4) rfl rfl) (zK.cons (.inl ⟨by rfl,fun l w9 hi9 hu9 _ hs9 he9=>.inl ⟨_,zfq rfl (he9.make (by decide) hu9 hi9).1,hs9.quiet (zc.alloc [] _ _),(he9.make (by decide) hu9 hi9).2⟩⟩) (zK.cons (Je (by rfl) (fun l w9 hi9 hu9 hp9 hs9 he9=>by have hb:l.getD 9 false=true:=hp9 ⟨9,.data⟩ (by simp) rfl;have hh:=he9.row hb hu9;exact ⟨_,zmR hh rfl rfl rfl,hs9.trans (zlU _ _ _ _ _ _ _) (fun x hx hl=>by simp at hx;omega),he9.put (by decide) hb hi9 (by simp) (zoc hh _ _ _ _ _)⟩)) (zK.nil))))))))))),fun l w8 hl8 k8 h8=> ?_⟩;have hrow:=h8.fst (hl8 9 (by decide));rw[hl8 10 (by decide)] at hrow;simp only[cond_true] at hrow;clear h8 hl8;have K5:=hid (K4.o.quiet k8);have HQ5:=hid (ze HQ9.o k8);have HQA:=hid hrow;clear k8 hrow f2 b0 b1 b2 b3 b4 p0 p1 p2 hZ HQ9;generalize w8=w5 at *;obtain ⟨q10,hq10⟩:∃ z,z=Z:=⟨_,rfl⟩;rw[← hq10] at HQA ⊢;clear hq10;obtain ⟨p0,p1,p2⟩:=CP.o _ K5.o;have HCO:=hid (JF (PrC.stays _ _ _ _ _ (HK1.o.quiet K5.o) HP.o) HR.o.sm f b i HIP.o);unfold ptV at HCO
   have RETB:Box (∀ w',zc [] w1 w'→ptT P (Zv P) (f,b,i)=false→(w'.heap[bx]? = some (.cells #[int i64 0,int i64 0,int i64 0] 99 (0,0))∧ZW P (Zv P)=some ((f:Int),(b:Int),(i:Int)))):=hid fun w' k hbad=>⟨ze HN0.o (HK1.o.quiet k),by
    have:=zkh HPAR.o (zfK HQ.o HW.o (by rw[hbad];rfl))
    exact this⟩
   have NEXT:Box (ptT P (Zv P) (f,b,i)=true→ZK (fun q=> !ptT P (Zv P) q) ((pts P).take (n+1))):=hid fun hgood=>by
    rw[HTK.o];exact HW.o.app (ZK.one (by rw[hgood];rfl))
   go_wp2_with fail;refine HCO.o.mono ?_;rintro e w6 ⟨k6,⟨hic,aa,ac,rfl,hz6, -⟩ | ⟨hic,rfl⟩⟩
   ·have HPT:Box (ptT P (Zv P) (f,b,i)=Zv P (zf P f) (zT (zr (zf P f) b) i)):=hid (by unfold ptT;rw[if_pos hic])
    have hargs:=Jp HR.o.bnd f b i hp1 hp2 hic;have HTY:=hid (zic HR.o.nm hp1);have K6:=hid (K5.o.quiet k6);have HZ6:=hid hz6;have HQ6:=hid (ze HQ5.o k6);obtain ⟨x,hx⟩:∃ x,x=zT (zr (zf P f) b) i:=⟨_,rfl⟩;rw[← hx] at HPT hargs HZ6 ⊢;unfold atV z8;clear k6 hz6 p0 p1 p2 hic HCO HQ5 HQA hx;have HFT:=hid fun (w':World) (k:zc [] w6 w')=>zfj (f:=zf P f) (PrC.stays _ _ _ _ _ (HK1.o.quiet (K6.o.quiet k)) HP.o) (z7.quiet HRR.o TyC.stays (HK1.o.quiet (K6.o.quiet k))) HRN.o rp (.slice (some ⟨bb,bo,none⟩) BN bp) HTY.o (zi4 HR.o.nm) (zbf HR.o.nm) x (cp:=ac) (HZ6.o.kept k (fun _ _ _=>by simp)) hargs;unfold fnV z8 at HFT;rw[← HSGE.o] at HFT;have HFG:Box (Zv P (zf P f) x=(zW P (zf P f) x && jr P (zf P f) x)):=hid (zi3 HTY.o);generalize (zW P (zf P f) x && jr P (zf P f) x)=gb at *;obtain ⟨AL,hAL⟩:∃ z,z=x.args.length:=⟨_,rfl⟩;rw[← hAL] at HFT ⊢;clear hAL hargs;go_upto_region 19 with fail;have kb:=zc.alloc [] w6 (.cells #[int i64 x.op,int i64 x.dst,int i64 x.a,int i64 x.b,int i64 x.n,.slice aa AL ac] 54);have hq:=zh w6 (.cells #[int i64 x.op,int i64 x.dst,int i64 x.a,int i64 x.b,int i64 x.n,.slice aa AL ac] 54);have f0:=zd (ze HQ6.o kb) 0;have f1:=zd (ze HQ6.o kb) 1;have f2:=zd (ze HQ6.o kb) 2;have i0:=zd hq 0;have i1:=zd hq 1;have i2:=zd hq 2;have i3:=zd hq 3;have i4:=zd hq 4;have i5:=zd hq 5;have KB:=hid kb;clear kb hq;generalize w6.alloc (.cells #[int i64 x.op,int i64 x.dst,int i64 x.a,int i64 x.b,int i64 x.n,.slice aa AL ac] 54)=w7 at *;generalize w6.heap.size=q11 at *;go_wp2_with fail;refine (HFT.o _ KB.o).mono ?_;rintro e w9 ⟨rfl,k9⟩;have K9:=hid (K6.o.quiet (KB.o.quiet k9));clear f0 f1 f2 i0 i1 i2 i3 i4 i5 k9 HFT;cases gb with
    | true=>
     go_wp2_with fail;go_roundw
     case rel=>exact ⟨n+1,by omega,by go_num,K9,hid (NEXT.o (by rw[HPT.o,HFG.o]))⟩
     case measure=>simp[intOf];omega
    | false=>
     obtain ⟨hb6',hck⟩:=RETB.o _ K9.o (by rw[HPT.o,HFG.o]);have HF:=hid hck;obtain ⟨p0,p1,p2⟩:=CP.o _ K9.o;have K6b:=hid K9.o;have y0:=zi hb6' 0;have y1:=zi hb6' 1;have y2:=zi hb6' 2;have x0:=zd hb6' 0;have x1:=zd hb6' 1;have x2:=zd hb6' 2;have HB6:=hid hb6';clear hb6' hck;go_wp2_with fail;have h3:=jZ HB6.o (int i64 (f:Int)) (int i64 (b:Int)) (int i64 (i:Int));have e0:=zd h3 0;have e1:=zd h3 1;have e2:=zd h3 2;exact bodyPost_ret (v:=.tuple #[agg #[int i64 (f:Int),int i64 (b:Int),int i64 (i:Int)],.bool false]) (by simp[results,Tryz.results78,go_sem,e0,e1,e2]) rfl (Zl.no HF.o (FIN.o _ _ _ _ (HK1.o.quiet K6b.o)))
   ·have hie:i=(zr (zf P f) b).code.length:=by omega
    have HPT:Box (ptT P (Zv P) (f,b,i)=zax P (zf P f) y):=hid (by unfold ptT;rw[if_neg hic,HYE.o])
    have HEN:Box (qH R (zf P f).blocks.length y.fin y.reg y.to y.els=true):=hid (by
     have:=zaR HR.o.nm HIP.o;rw[hie,QT, ← HYE.o, ← HRN.o] at this
     exact this)
    have HSG:=hid (HT.o.fn f hp1);have K6:=hid (K5.o.quiet k6);have HQ6:=hid (ze HQ5.o k6);have HQB:=hid (ze HQA.o k6);unfold zko z8 zfl;clear k6 p0 p1 p2 hic HCO HQ5 HQA hie;go_upto_region 19 with fail;have kb:=zc.alloc [] w6 (.cells #[int i64 0,int i64 0,int i64 0,int i64 0,int i64 0,.slice none 0 0] 54);have HQ7:=hid (ze HQ6.o kb);have HQC:=hid (ze HQB.o kb);have K7:=hid (K6.o.quiet kb);clear kb HQ6 HQB;generalize w6.alloc (.cells #[int i64 0,int i64 0,int i64 0,int i64 0,int i64 0,.slice none 0 0] 54)=w7 at *;generalize w6.heap.size=q11 at *;have h1:w7.cell? ⟨q10,1,none⟩=some (int i64 y.fin):=zd HQC.o 1;by_cases hf2:y.fin=2
    ·have hin:inB y.reg R=true:=by
      have:=HEN.o;unfold qH at this;rw[if_neg (by rw[hf2];decide),if_pos hf2,Bool.and_eq_true] at this;exact this.1
     have o2:(y.fin == 2)=true:=by rw[hf2];rfl
     have o3:(y.fin == 3)=false:=by rw[hf2];rfl
     have HET:Box (zax P (zf P f) y=((zq (zf P f) y.reg).1 == 0)):=hid (by unfold zax;rw[if_pos hf2]);have HIN:=hid hin;obtain ⟨j0,j1⟩:=zt.1 hin;obtain ⟨G,hG⟩:∃ G:Nat,y.reg=(G:Int):=⟨y.reg.toNat,by omega⟩;have hlt_G:(G:Int)<(R:Int):=by omega
     obtain ⟨rb,ro,rfl,t1⟩:=HRR.o.at (zg (l:=(zf P f).regs) (k:=G) (d:=(0,0)) (by rw[← HRN.o];omega));have n0:=za (HK1.o.quiet K7.o) t1.c0.1;have f1:w7.cell? ⟨q9,1,none⟩=some (.slice (some ⟨rb,ro,none⟩) R rp):=zd HQ7.o 1;have h2:w7.cell? ⟨q10,2,none⟩=some (int i64 y.reg):=zd HQC.o 2;have HRT:Box (zq (zf P f) y.reg=(zf P f).regs.getD G (0,0)):=hid (by rw[Zd (by rw[← HRN.o];exact hin),hG,Int.toNat_natCast]);rw[hG] at h2;clear t1 hin j0 j1 hf2 HIN hG;generalize (zf P f).regs.getD G (0,0)=a1 at *;obtain ⟨fn,hfn⟩:∃ z,z=y.fin:=⟨_,rfl⟩;rw[← hfn] at h1 o2 o3;clear hfn;by_cases ha:a1.1=0
     ·have oa:(a1.1 != 0)=false:=by rw[ha];rfl
      have HG2:Box (ptT P (Zv P) (f,b,i)=true):=hid (by rw[HPT.o,HET.o,HRT.o,ha];rfl);clear ha;go_wp2_with fail;go_roundw
      case rel=>exact ⟨n+1,by omega,by go_num,K7,hid (NEXT.o HG2.o)⟩
      case measure=>simp[intOf];omega
     ·have oa:(a1.1 != 0)=true:=by rw[bne_iff_ne];exact ha
      have hbd:ptT P (Zv P) (f,b,i)=false:=by rw[HPT.o,HET.o,HRT.o];exact neb ha
      obtain ⟨hb6',hck⟩:=RETB.o _ K7.o hbd;have HF:=hid hck;obtain ⟨p0,p1,p2⟩:=CP.o _ K7.o;clear ha hbd;have K6b:=hid K7.o;have y0:=zi hb6' 0;have y1:=zi hb6' 1;have y2:=zi hb6' 2;have x0:=zd hb6' 0;have x1:=zd hb6' 1;have x2:=zd hb6' 2;have HB6:=hid hb6';clear hb6' hck;go_wp2_with fail;have h3:=jZ HB6.o (int i64 (f:Int)) (int i64 (b:Int)) (int i64 (i:Int));have e0:=zd h3 0;have e1:=zd h3 1;have e2:=zd h3 2;exact bodyPost_ret (v:=.tuple #[agg #[int i64 (f:Int),int i64 (b:Int),int i64 (i:Int)],.bool false]) (by simp[results,Tryz.results78,go_sem,e0,e1,e2]) rfl (Zl.no HF.o (FIN.o _ _ _ _ (HK1.o.quiet K6b.o)))
    ·by_cases hf3:y.fin=3
     ·have hin:inB y.reg R=true:=by
       have:=HEN.o;unfold qH at this;rw[if_neg (by rw[hf3];decide),if_neg hf2,if_pos hf3,Bool.and_eq_true] at this;exact this.1
      have o2:(y.fin == 2)=false:=by rw[hf3];rfl
      have o3:(y.fin == 3)=true:=by rw[hf3];rfl
      have hsr:inB (zf P f).sig P.sigs.length=true:=HSG.o
      have HET:Box (zax P (zf P f) y=tyE ((zf P f).regs.getD y.reg.toNat (0,0)) (Jd P (zf P f).sig).2):=hid (by
       unfold zax;rw[if_neg hf2,if_pos hf3,ZX hsr, ← HRN.o];show (inB y.reg R && tyE _ _)=_;rw[hin,Bool.true_and]
       rfl)
      obtain ⟨j0,j1⟩:=zt.1 hin;obtain ⟨G,hG⟩:∃ G:Nat,y.reg=(G:Int):=⟨y.reg.toNat,by omega⟩;have hlt_G:(G:Int)<(R:Int):=by omega
      rw[← HSGE.o] at hsr HET;obtain ⟨j2,j3⟩:=zt.1 hsr;obtain ⟨J,hJ⟩:∃ J:Nat,sg=(J:Int):=⟨sg.toNat,by omega⟩;obtain ⟨rb,ro,rfl,t1⟩:=HRR.o.at (zg (l:=(zf P f).regs) (k:=G) (d:=(0,0)) (by rw[← HRN.o];omega));obtain ⟨sb,so,rfl,t2⟩:=HSR.o.at (zg (l:=P.sigs) (k:=J) (d:=([],0,0)) (by omega));have hlt_J:(J:Int)<(P.sigs.length:Int):=by omega
      have n0:=za (HK1.o.quiet K7.o) t1.c0.1;have n1:=za (HK1.o.quiet K7.o) t1.c1.1;have o0:=za (HK1.o.quiet K7.o) t2.c1.1;have o1:=za (HK1.o.quiet K7.o) t2.c2.1;have f0:w7.cell? ⟨q9,0,none⟩=some (int i64 sg):=zd HQ7.o 0;have f1:w7.cell? ⟨q9,1,none⟩=some (.slice (some ⟨rb,ro,none⟩) R rp):=zd HQ7.o 1;have h2:w7.cell? ⟨q10,2,none⟩=some (int i64 y.reg):=zd HQC.o 2;have c1:=C1.o _ (HK1.o.quiet K7.o);rw[hG] at h2 HET;rw[hJ] at f0 HET;unfold Jd at HET;rw[Int.toNat_natCast,Int.toNat_natCast] at HET;clear t1 t2 hin j0 j1 hf2 hf3 j2 j3 hsr hG hJ;generalize (zf P f).regs.getD G (0,0)=a1 at *;generalize (P.sigs.getD J ([],0,0)).2=a2 at *;generalize P.sigs.length=SN at *;have HE3:=hid fun (w':World)=>Z0 a1 a2 w';unfold tyV at HE3;obtain ⟨eb,heb⟩:∃ z,z=tyE a1 a2:=⟨_,rfl⟩;rw[← heb] at HE3 HET;clear heb;obtain ⟨fn,hfn⟩:∃ z,z=y.fin:=⟨_,rfl⟩;rw[← hfn] at h1 o2 o3;clear hfn;go_upto_region 23 with fail;refine zm (W0:=w7) 193 [pointer (some ⟨q9,1,none⟩),.slice (some ⟨rb,ro,none⟩) R rp,pointer (some ⟨q10,2,none⟩),int i64 (G:Int),pointer (some ⟨rb,ro+G * 2,none⟩),agg #[int i64 a1.1,int i64 a1.2],pointer (some ⟨pb,po,none⟩),pointer (some ⟨pb,po,none⟩),pointer (some ⟨pb,po+1,none⟩),.slice (some ⟨sb,so,none⟩) SN sp0,pointer (some ⟨q9,0,none⟩),int i64 (J:Int),pointer (some ⟨sb,so+J * 3,none⟩),pointer (some ⟨sb,so+J * 3+1,none⟩),agg #[int i64 a2.1,int i64 a2.2],.bool eb,.bool (!eb),.bool (!eb)] (by kernel_rfl) (by rfl) (by kernel_rfl) (zc.refl _ _) (fun A hA=> ?_);simp only[zv,Act.put,sTA,sC0,sCS] at hA;subst hA;refine ⟨gR (gY (fun _ k9=>zH (za k9 f1) rfl rfl) (gR (gY (fun _ k9=>zI (za k9 h2) rfl rfl) (gY (fun _ _=>jx rfl rfl rfl hlt_G) (gY (fun _ k9=>zZ (za k9 n0) (za k9 n1) rfl rfl) (gR (gR (gR (gY (fun _ k9=>q7 (za k9 c1) rfl rfl) (gR (gY (fun _ k9=>zI (za k9 f0) rfl rfl) (gY (fun _ _=>jH rfl rfl rfl hlt_J) (gR (gY (fun _ k9=>zZ (za k9 o0) (za k9 o1) rfl rfl) (zk.cons (zn (by rfl) 113 #[agg #[int i64 a1.1,int i64 a1.2],agg #[int i64 a2.1,int i64 a2.2]] (fun w=>qq rfl rfl rfl rfl (qU _ _ w)) (fun w9 _=>HE3.o w9)) (gY (fun _ _=>J4 rfl rfl) (gR (zk.nil)))))))))))))))))),fun w8 k8=> ?_⟩;have K8:=hid (K7.o.quiet k8);clear k8 c1 f0 f1 h1 h2 n0 n1 o0 o1 HE3;cases eb with
      | true=>
       have HG2:Box (ptT P (Zv P) (f,b,i)=true):=hid (by rw[HPT.o,HET.o]);go_wp2_with fail;go_roundw
       case rel=>exact ⟨n+1,by omega,by go_num,K8,hid (NEXT.o HG2.o)⟩
       case measure=>simp[intOf];omega
      | false=>
       obtain ⟨hb6',hck⟩:=RETB.o _ K8.o (by rw[HPT.o,HET.o]);have HF:=hid hck;obtain ⟨p0,p1,p2⟩:=CP.o _ K8.o;have K6b:=hid K8.o;have y0:=zi hb6' 0;have y1:=zi hb6' 1;have y2:=zi hb6' 2;have x0:=zd hb6' 0;have x1:=zd hb6' 1;have x2:=zd hb6' 2;have HB6:=hid hb6';clear hb6' hck;go_wp2_with fail;have h3:=jZ HB6.o (int i64 (f:Int)) (int i64 (b:Int)) (int i64 (i:Int));have e0:=zd h3 0;have e1:=zd h3 1;have e2:=zd h3 2;exact bodyPost_ret (v:=.tuple #[agg #[int i64 (f:Int),int i64 (b:Int),int i64 (i:Int)],.bool false]) (by simp[results,Tryz.results78,go_sem,e0,e1,e2]) rfl (Zl.no HF.o (FIN.o _ _ _ _ (HK1.o.quiet K6b.o)))
     ·have o2:(y.fin == 2)=false:=neb hf2
      have o3:(y.fin == 3)=false:=neb hf3;have HG2:Box (ptT P (Zv P) (f,b,i)=true):=hid (by rw[HPT.o];unfold zax;rw[if_neg hf2,if_neg hf3]);clear hf2 hf3;obtain ⟨fn,hfn⟩:∃ z,z=y.fin:=⟨_,rfl⟩;rw[← hfn] at h1 o2 o3;clear hfn;go_wp2_with fail;go_roundw
      case rel=>exact ⟨n+1,by omega,by go_num,K7,hid (NEXT.o HG2.o)⟩
      case measure=>simp[intOf];omega
end Go.Proofs.YthflgjkmbakedaaGreatDoor
