import Derived.Test.YtgmbkiagdhjpnaaGreatDoorUA1
import Derived.Test.YtgmbkiagdhjpnaaGreatDoorU06
import Derived.Test.YtgmbkiagdhjpnaaGreatDoorU17

namespace Go.Proofs.YtgmbkiagdhjpnaaGreatDoor
open Go.RowKit
open Go.Value (int pointer agg)
open Go.IntKind (i64)
set_option maxRecDepth 20000
set_option maxHeartbeats 8000000
variable {P:Program}{a:Option Addr}{ad:Addr}{b c f fb fo j n o pb po:Nat}{ev:Operand→Value}{oi:Oper}{r:Bool}{v v0 v1 v2:Value}{w:World}{x x0 x1 y:Operand}
def tyE(s t:Int × Int):Bool:=s.1 == t.1 && s.2 == t.2
theorem jS(a b c d:Int)(w:World):(binOp .eql 60 (agg #[int i64 a,int i64 b]) (agg #[int i64 c,int i64 d])).run Tryz.prog w=.ok (.bool (tyE (a,b) (c,d))) w:=by
 go_simp
 unfold tyE;by_cases h:a=c <;> by_cases h':b=d <;> simp[h,h']
theorem zfu(a b c d:Int)(w:World):(binOp .neq 60 (agg #[int i64 a,int i64 b]) (agg #[int i64 c,int i64 d])).run Tryz.prog w=.ok (.bool (!tyE (a,b) (c,d))) w:=by
 go_simp
 unfold tyE;by_cases h:a=c <;> by_cases h':b=d <;> simp[h,h']
def Q8(P:Pr8)(f:Fu8):Bool:=match jB P f.sig with
 | none=>false
 | some s=>decide (s.1.length≤f.regs.length) && (List.range s.1.length).all fun k=>tyE (f.regs.getD k (0,0)) (s.1.getD k (0,0))
theorem ziL{P:Pr8}{f:Fu8}(h:PrC w pb po P)(hf:FuC w fb fo f):Calls Tryz.prog 117 #[pointer (some ⟨pb,po,none⟩),pointer (some ⟨fb,fo,none⟩)] w fun e w'=>e=.returned (.bool (Q8 P f))∧za [] w w':=by
 have HSG:=hid (ZX h (za.refl [] w) f.sig);obtain ⟨ra,rp,c1,rr,_,hrl⟩:=hf.c1;have c0:=hf.c0.1;have HRR:=hid rr;have C1:Box (∀ w',za [] w w'→w'.cell? ⟨fb,fo+1,none⟩=some (.slice ra f.regs.length rp)):=hid fun w' k=>zb k c1
 have HE:Box (Q8 P f=match jB P f.sig with
  | none=>false
  | some s=>decide (s.1.length≤f.regs.length) && (List.range s.1.length).all fun k=>tyE (f.regs.getD k (0,0)) (s.1.getD k (0,0))):=hid rfl
 obtain ⟨R,hR⟩:∃ R,R=f.regs.length:=⟨_,rfl⟩;have HRN:=hid hR;rw[← hR] at C1;clear h hf rr c1 hrl hR;generalize jB P f.sig=O at *;go_enter Tryz.func117,Tryz.ntmps117;go_wp2_with fail;refine HSG.o.mono ?_;intro e w1 h1;obtain ⟨k1,sa,sp,n,t1,t2,rfl,hs⟩:=h1.open;have hb:=ze w1 (.cells #[.slice sa n sp,int i64 t1,int i64 t2] 75);have K1:=hid (k1.quiet (za.alloc [] w1 (.cells #[.slice sa n sp,int i64 t1,int i64 t2] 75)));have HB:=hid hb;have HS:=hid hs;clear h1 k1 hb hs c0;go_upto_region 2 with fail;generalize w1.alloc (.cells #[.slice sa n sp,int i64 t1,int i64 t2] 75)=w2 at *;generalize w1.heap.size=q at *;have c1:=C1.o _ K1.o;have s0:=zc HB.o 0;cases O with
 | none=>
  have HF:Box (Q8 P f=false):=hid HE.o;clear HE HS;go_quiet (fail);go_wp2_with fail;go_ret;exact ⟨by rw[HF.o];rfl,K1.o.quiet (za.drewN _ _ _)⟩
 | some s=>
  obtain ⟨e1,_,_,hrs,hm⟩:=HS.o s rfl;have HSL:=hid e1;have HSR:=hid hrs;have hn9:(n:Int)≤9223372036854775807:=by unfold maxLen at hm;omega
  have HF:Box (Q8 P f=(decide (n≤R) && (List.range n).all fun k=>tyE (f.regs.getD k (0,0)) (s.1.getD k (0,0)))):=hid (by rw[HE.o,HSL.o,HRN.o]);clear HE HS e1 hrs hm;by_cases hle:n≤R
  case neg=>
   have hle':(R:Int)<(n:Int):=by omega
   have HG:Box (Q8 P f=false):=hid (by rw[HF.o];simp[hle]);clear hle HF;go_quiet (fail);go_wp2_with fail;go_ret;exact ⟨by rw[HG.o];rfl,K1.o.quiet (za.drewN _ _ _)⟩
  have hle':¬ (R:Int)<(n:Int):=by omega
  have HG:Box (Q8 P f=(List.range n).all fun k=>tyE (f.regs.getD k (0,0)) (s.1.getD k (0,0))):=hid (by rw[HF.o];simp[hle]);clear HF;go_quiet (fail);go_upto_region 4 with fail;generalize hwd:w2.drewN nq=wd at *;have KD:za [] w2 wd:=by rw[← hwd];exact za.drewN _ _ _
  have K2:=hid (K1.o.quiet KD);have HBD:=hid (zd HB.o KD);have s0:=zc HBD.o 0;clear hwd KD c1;go_wp2_with fail;clear s0
  go_loopw [34] (fun kv wr=>∃ k:Nat,k≤n∧kv=int i64 (k:Int)∧Box (za [] w wr)∧Box (∀ j,j<k→tyE (f.regs.getD j (0,0)) (s.1.getD j (0,0))=true)) (fun kv _=>n - (intOf kv).toNat)
  case atStart=>exact ⟨0,by omega,rfl,K2,hid fun j hj=>by omega⟩
  case round=>
   obtain ⟨k,hk,rfl,HK,HA⟩:=hrel;by_cases hlt:k<n
   ·have hlt':(k:Int)<(n:Int):=by omega
    have hkr:(k:Int)<(R:Int):=by omega
    obtain ⟨b,off,rfl,hc⟩:=HSR.o.at (zi (l:=s.1) (k:=k) (d:=(0,0)) (by rw[← HSL.o];exact hlt));obtain ⟨b',off',rfl,hc'⟩:=HRR.o.at (zi (l:=f.regs) (k:=k) (d:=(0,0)) (by rw[← HRN.o];omega));have d0:=zb HK.o hc.c0.1;have d1:=zb HK.o hc.c1.1;have KA:=hid (HK.o.quiet (za.alloc [] wr (.cells #[int i64 (s.1.getD k (0,0)).1,int i64 (s.1.getD k (0,0)).2] 60)));have hn:=ze wr (.cells #[int i64 (s.1.getD k (0,0)).1,int i64 (s.1.getD k (0,0)).2] 60);have g0:=zb KA.o hc'.c0.1;have g1:=zb KA.o hc'.c1.1;have c1:=C1.o _ KA.o;have REL:Box (tyE (f.regs.getD k (0,0)) (s.1.getD k (0,0))=true→∀ j,j<k+1→tyE (f.regs.getD j (0,0)) (s.1.getD j (0,0))=true):=hid fun hg j hj=>by
     by_cases e:j<k
     ·exact HA.o j e
     ·obtain rfl:j=k:=by omega
      exact hg
    have BAD:Box (tyE (f.regs.getD k (0,0)) (s.1.getD k (0,0))=false→Q8 P f=false):=hid fun hg=>by
     rw[HG.o,List.all_eq_false];exact ⟨k,List.mem_range.2 hlt,by rw[hg];simp⟩
    have HNW:=hid hn;clear hc hc' hn;generalize s.1.getD k (0,0)=T at *;generalize f.regs.getD k (0,0)=U at *;go_upto_region 7 with fail;generalize wr.alloc (.cells #[int i64 T.1,int i64 T.2] 60)=w5 at *;generalize wr.heap.size=q5 at *;have f0:=zc HNW.o 0;have f1:=zc HNW.o 1;have rn:=fun w'=>zfu U.1 U.2 T.1 T.2 w';clear d0 d1;cases hg:tyE U T with
    | true=>
     have hg':tyE (U.1,U.2) (T.1,T.2)=true:=hg;rw[hg'] at rn;have HR2:=hid (REL.o hg);clear hg hg';go_quiet (fail);go_wp2_with fail;go_roundw
     case rel=>exact ⟨k+1,by omega,by go_num,hid (KA.o.quiet (za.drewN _ _ _)),HR2⟩
     case measure=>simp[intOf];omega
    | false=>
     have hg':tyE (U.1,U.2) (T.1,T.2)=false:=hg;rw[hg'] at rn;have HF:=hid (BAD.o hg);clear hg hg';go_quiet (fail);go_wp2_with fail;go_ret;exact ⟨by rw[HF.o];rfl,KA.o.quiet (za.drewN _ _ _)⟩
   ·obtain rfl:n=k:=by omega
    have HF:Box (Q8 P f=true):=hid (by rw[HG.o,List.all_eq_true];exact fun j hj=>HA.o j (List.mem_range.1 hj));go_wp2_with fail;go_ret;exact ⟨by rw[HF.o];rfl,HK.o⟩
def zlA:Option Code→Array Oper
 | some (.seq _ (.seq (.region _ o _) _))=>o
 | _=>#[]
theorem qj{Q:Exit→Act→World→Prop}{q:Nat}{o:Int}{x:In8}{ar:Value}{WA:World}{T1 T2 T3:Int × Int}(HN:WA.heap[q]? = some (.cells #[int i64 o,int i64 x.dst,int i64 x.a,int i64 x.b,int i64 x.n,ar] 65 (0,0)))(h1:∀ w':World,za [] WA w'→Calls Tryz.prog 207 #[pointer (some ⟨fb,fo,none⟩),int i64 x.dst] w' fun e w2=>e=.returned (tyV T1)∧za [] w' w2)(h2:∀ w':World,za [] WA w'→Calls Tryz.prog 207 #[pointer (some ⟨fb,fo,none⟩),int i64 x.a] w' fun e w2=>e=.returned (tyV T2)∧za [] w' w2)(h3:∀ w':World,za [] WA w'→Calls Tryz.prog 207 #[pointer (some ⟨fb,fo,none⟩),int i64 x.b] w' fun e w2=>e=.returned (tyV T3)∧za [] w' w2)
  (hP:∀ p a d v w,Q (Exit.panic p) (Act.put a (some d) v) w→Q (Exit.panic p) a w) (hQ:∀ (w1:World) (b7 b8 b9:Nat),za [] WA w1→qm w1 b7 T1→qm w1 b8 T2→qm w1 b9 T3→Q .normal { tmps:=#[pointer (some ⟨pb,po,none⟩),pointer (some ⟨fb,fo,none⟩),agg #[int i64 o,int i64 x.dst,int i64 x.a,int i64 x.b,int i64 x.n,ar],undef,undef,pointer (some ⟨q,0,none⟩),.bool false,pointer (some ⟨b7,0,none⟩),pointer (some ⟨b8,0,none⟩),pointer (some ⟨b9,0,none⟩),undef,undef,undef,undef,undef,undef,pointer (some ⟨fb,fo,none⟩),pointer (some ⟨q,1,none⟩),int i64 x.dst,tyV T1,pointer (some ⟨fb,fo,none⟩),pointer (some ⟨q,2,none⟩),int i64 x.a,tyV T2,pointer (some ⟨fb,fo,none⟩),pointer (some ⟨q,3,none⟩),int i64 x.b,tyV T3,undef,undef,undef,undef,undef,undef,undef,undef,undef,undef,undef,undef,undef,undef,undef,undef,undef,undef,undef,undef,undef,undef,undef,undef,undef,undef,undef,undef,undef,undef,undef,undef,undef,undef,undef,undef,undef,undef,undef,undef,undef,undef,undef,undef,undef,undef,undef,undef,undef,undef,undef,undef,undef,undef,undef,undef,undef,undef,undef,undef,undef,undef,undef,undef,undef,undef,undef,undef,undef,undef,undef,undef,undef,undef,undef,undef,undef,undef,undef,undef,undef,undef,undef,undef,undef,undef,undef,undef,undef,undef,undef,undef,undef,undef,undef,undef,undef,undef,undef,undef,undef,undef,undef,undef,undef,undef,undef,undef,undef,undef,undef,undef,undef,undef,undef,undef,undef,undef,undef,undef,undef,undef,undef,undef,undef,undef,undef,undef,undef,undef,undef,undef,undef,undef,undef,undef,undef,undef,undef,undef,undef,undef,undef],defers:=[] } w1):(Code.region 1 (zlA Tryz.f206.body) true).wp Tryz.prog Q { tmps:=#[pointer (some ⟨pb,po,none⟩),pointer (some ⟨fb,fo,none⟩),agg #[int i64 o,int i64 x.dst,int i64 x.a,int i64 x.b,int i64 x.n,ar],undef,undef,pointer (some ⟨q,0,none⟩),.bool false,undef,undef,undef,undef,undef,undef,undef,undef,undef,undef,undef,undef,undef,undef,undef,undef,undef,undef,undef,undef,undef,undef,undef,undef,undef,undef,undef,undef,undef,undef,undef,undef,undef,undef,undef,undef,undef,undef,undef,undef,undef,undef,undef,undef,undef,undef,undef,undef,undef,undef,undef,undef,undef,undef,undef,undef,undef,undef,undef,undef,undef,undef,undef,undef,undef,undef,undef,undef,undef,undef,undef,undef,undef,undef,undef,undef,undef,undef,undef,undef,undef,undef,undef,undef,undef,undef,undef,undef,undef,undef,undef,undef,undef,undef,undef,undef,undef,undef,undef,undef,undef,undef,undef,undef,undef,undef,undef,undef,undef,undef,undef,undef,undef,undef,undef,undef,undef,undef,undef,undef,undef,undef,undef,undef,undef,undef,undef,undef,undef,undef,undef,undef,undef,undef,undef,undef,undef,undef,undef,undef,undef,undef,undef,undef,undef,undef,undef,undef,undef,undef,undef,undef,undef,undef,undef,undef,undef,undef,undef,undef,undef,undef,undef,undef],defers:=[] } WA:=by
 have H1:=hid h1;have H2:=hid h2;have H3:=hid h3;clear h1 h2 h3;have IN:Box (∀ w',za [] WA w'→w'.cell? ⟨q,1,none⟩=some (int i64 x.dst)∧w'.cell? ⟨q,2,none⟩=some (int i64 x.a)∧w'.cell? ⟨q,3,none⟩=some (int i64 x.b)):=hid fun w' k=>by
  have:=zd HN k;exact ⟨zc this 1,zc this 2,zc this 3⟩
 have HD0:=hid (za.drew [] WA);have ld:∀ {w':World}{ad:Addr}{v:Value}{ev:Operand→Value}{oi:Oper}{y:Operand},w'.cell? ad=some v→oi.op=.load 3 y→ev y=.pointer (some ad)→(execOp ev oi).run Tryz.prog w'=.ok (.value v) w':=fun hc ho hy=>by
  simp[execOp,ho,hy,go_sem,hc]
 have stv:∀ {w1:World}{b:Nat}{t t':Int × Int}{ev:Operand→Value}{oi:Oper}{y z:Operand},qm w1 b t→oi.op=.store 60 y z→ev y=pointer (some ⟨b,0,none⟩)→ev z=tyV t'→(execOp ev oi).run Tryz.prog w1=.ok .skip ((w1.setCell ⟨b,0,none⟩ (int i64 t'.1)).setCell ⟨b,1,none⟩ (int i64 t'.2)):=fun {w1 b t t' ev oi y z} hty ho hy hz=>by
  have z0:=zg hty 0;have z1:=zg hty 1;have c0:=zc hty 0;have c1:=zc hty 1;simp[execOp,ho,hy,hz,go_sem,z0,z1,c0,c1]
 refine wp_region_held_drew (S:=fun w'=>za [] WA w') (by kernel_rfl) HD0.o (fun _=> ?_);refine zC (i:=0) (d:=16) (v:=pointer (some ⟨fb,fo,none⟩)) rfl rfl (by as_aux_lemma=>kernel_rfl) (by as_aux_lemma=>kernel_rfl) (by as_aux_lemma=>kernel_rfl) (fun _ _ _ h=>hP _ _ _ _ _ h) (by rfl) HD0.o (fun _ _=>rfl) ?_;simp only[Act.put,sTA,sC0,sCS];refine zC (i:=1) (d:=17) (v:=pointer (some ⟨q,1,none⟩)) rfl rfl (by as_aux_lemma=>kernel_rfl) (by as_aux_lemma=>kernel_rfl) (by as_aux_lemma=>kernel_rfl) (fun _ _ _ h=>hP _ _ _ _ _ h) (by rfl) HD0.o (fun _ _=>rfl) ?_;simp only[Act.put,sTA,sC0,sCS];refine zC (i:=2) (d:=18) (v:=int i64 x.dst) rfl rfl (by as_aux_lemma=>kernel_rfl) (by as_aux_lemma=>kernel_rfl) (by as_aux_lemma=>kernel_rfl) (fun _ _ _ h=>hP _ _ _ _ _ h) (by rfl) HD0.o (fun w' k=>ld (IN.o w' k).1 rfl rfl) ?_;simp only[Act.put,sTA,sC0,sCS];refine zC (i:=4) (d:=20) (v:=pointer (some ⟨fb,fo,none⟩)) rfl rfl (by as_aux_lemma=>kernel_rfl) (by as_aux_lemma=>kernel_rfl) (by as_aux_lemma=>kernel_rfl) (fun _ _ _ h=>hP _ _ _ _ _ h) (by rfl) HD0.o (fun _ _=>rfl) ?_;simp only[Act.put,sTA,sC0,sCS];refine zC (i:=5) (d:=21) (v:=pointer (some ⟨q,2,none⟩)) rfl rfl (by as_aux_lemma=>kernel_rfl) (by as_aux_lemma=>kernel_rfl) (by as_aux_lemma=>kernel_rfl) (fun _ _ _ h=>hP _ _ _ _ _ h) (by rfl) HD0.o (fun _ _=>rfl) ?_;simp only[Act.put,sTA,sC0,sCS];refine zC (i:=6) (d:=22) (v:=int i64 x.a) rfl rfl (by as_aux_lemma=>kernel_rfl) (by as_aux_lemma=>kernel_rfl) (by as_aux_lemma=>kernel_rfl) (fun _ _ _ h=>hP _ _ _ _ _ h) (by rfl) HD0.o (fun w' k=>ld (IN.o w' k).2.1 rfl rfl) ?_;simp only[Act.put,sTA,sC0,sCS];refine zC (i:=8) (d:=24) (v:=pointer (some ⟨fb,fo,none⟩)) rfl rfl (by as_aux_lemma=>kernel_rfl) (by as_aux_lemma=>kernel_rfl) (by as_aux_lemma=>kernel_rfl) (fun _ _ _ h=>hP _ _ _ _ _ h) (by rfl) HD0.o (fun _ _=>rfl) ?_;simp only[Act.put,sTA,sC0,sCS];refine zC (i:=9) (d:=25) (v:=pointer (some ⟨q,3,none⟩)) rfl rfl (by as_aux_lemma=>kernel_rfl) (by as_aux_lemma=>kernel_rfl) (by as_aux_lemma=>kernel_rfl) (fun _ _ _ h=>hP _ _ _ _ _ h) (by rfl) HD0.o (fun _ _=>rfl) ?_;simp only[Act.put,sTA,sC0,sCS];refine zC (i:=10) (d:=26) (v:=int i64 x.b) rfl rfl (by as_aux_lemma=>kernel_rfl) (by as_aux_lemma=>kernel_rfl) (by as_aux_lemma=>kernel_rfl) (fun _ _ _ h=>hP _ _ _ _ _ h) (by rfl) HD0.o (fun w' k=>ld (IN.o w' k).2.2 rfl rfl) ?_;simp only[Act.put,sTA,sC0,sCS];refine jo (zlM WA (fun v7 v8 v9 v19 v23 v27=>({ tmps:=List.toArray ((pointer (some ⟨pb,po,none⟩):Value) :: (pointer (some ⟨fb,fo,none⟩):Value) :: (agg #[int i64 o,int i64 x.dst,int i64 x.a,int i64 x.b,int i64 x.n,ar]:Value) :: (undef:Value) :: (undef:Value) :: (pointer (some ⟨q,0,none⟩):Value) :: (.bool false:Value) :: (v7:Value) :: (v8:Value) :: (v9:Value) :: (undef:Value) :: (undef:Value) :: (undef:Value) :: (undef:Value) :: (undef:Value) :: (undef:Value) :: (pointer (some ⟨fb,fo,none⟩):Value) :: (pointer (some ⟨q,1,none⟩):Value) :: (int i64 x.dst:Value) :: (v19:Value) :: (pointer (some ⟨fb,fo,none⟩):Value) :: (pointer (some ⟨q,2,none⟩):Value) :: (int i64 x.a:Value) :: (v23:Value) :: (pointer (some ⟨fb,fo,none⟩):Value) :: (pointer (some ⟨q,3,none⟩):Value) :: (int i64 x.b:Value) :: (v27:Value) :: (undef:Value) :: (undef:Value) :: (undef:Value) :: (undef:Value) :: (undef:Value) :: (undef:Value) :: (undef:Value) :: (undef:Value) :: (undef:Value) :: (undef:Value) :: (undef:Value) :: (undef:Value) :: (undef:Value) :: (undef:Value) :: (undef:Value) :: (undef:Value) :: (undef:Value) :: (undef:Value) :: (undef:Value) :: (undef:Value) :: (undef:Value) :: (undef:Value) :: (undef:Value) :: (undef:Value) :: (undef:Value) :: (undef:Value) :: (undef:Value) :: (undef:Value) :: (undef:Value) :: (undef:Value) :: (undef:Value) :: (undef:Value) :: (undef:Value) :: (undef:Value) :: (undef:Value) :: (undef:Value) :: (undef:Value) :: (undef:Value) :: (undef:Value) :: (undef:Value) :: (undef:Value) :: (undef:Value) :: (undef:Value) :: (undef:Value) :: (undef:Value) :: (undef:Value) :: (undef:Value) :: (undef:Value) :: (undef:Value) :: (undef:Value) :: (undef:Value) :: (undef:Value) :: (undef:Value) :: (undef:Value) :: (undef:Value) :: (undef:Value) :: (undef:Value) :: (undef:Value) :: (undef:Value) :: (undef:Value) :: (undef:Value) :: (undef:Value) :: (undef:Value) :: (undef:Value) :: (undef:Value) :: (undef:Value) :: (undef:Value) :: (undef:Value) :: (undef:Value) :: (undef:Value) :: (undef:Value) :: (undef:Value) :: (undef:Value) :: (undef:Value) :: (undef:Value) :: (undef:Value) :: (undef:Value) :: (undef:Value) :: (undef:Value) :: (undef:Value) :: (undef:Value) :: (undef:Value) :: (undef:Value) :: (undef:Value) :: (undef:Value) :: (undef:Value) :: (undef:Value) :: (undef:Value) :: (undef:Value) :: (undef:Value) :: (undef:Value) :: (undef:Value) :: (undef:Value) :: (undef:Value) :: (undef:Value) :: (undef:Value) :: (undef:Value) :: (undef:Value) :: (undef:Value) :: (undef:Value) :: (undef:Value) :: (undef:Value) :: (undef:Value) :: (undef:Value) :: (undef:Value) :: (undef:Value) :: (undef:Value) :: (undef:Value) :: (undef:Value) :: (undef:Value) :: (undef:Value) :: (undef:Value) :: (undef:Value) :: (undef:Value) :: (undef:Value) :: (undef:Value) :: (undef:Value) :: (undef:Value) :: (undef:Value) :: (undef:Value) :: (undef:Value) :: (undef:Value) :: (undef:Value) :: (undef:Value) :: (undef:Value) :: (undef:Value) :: (undef:Value) :: (undef:Value) :: (undef:Value) :: (undef:Value) :: (undef:Value) :: (undef:Value) :: (undef:Value) :: (undef:Value) :: (undef:Value) :: (undef:Value) :: (undef:Value) :: (undef:Value) :: (undef:Value) :: (undef:Value) :: (undef:Value) :: (undef:Value) :: (undef:Value) :: []),defers:=[] }:Act)) T1 T2 T3) (fun _ _ _ h=>h.kept) ?hd ?hstep _ _ _ _ ?start ?fin
 case fin=>exact Nat.le_of_ble_eq_true (by kernel_rfl)
 case start=>
  exact ⟨rfl,HD0.o,⟨undef,undef,undef,undef,undef,undef,0,0,0,rfl,(fun h=>by cases h),(fun h=>by cases h),(fun h=>by cases h),(fun h=>by cases h),(fun h=>by cases h),(fun h=>by cases h),(fun h=>by cases h),(fun h=>by cases h),fun h=>by cases h⟩,by decide,(fun h=>by cases h),(fun h=>by cases h),fun h=>by cases h⟩
 case hstep=>
  rintro l a w1 i ⟨hsz,hk,⟨v7,v8,v9,v19,v23,v27,b7,b8,b9,rfl,e3,e7,e11,m7,m8,m9,n78,n79,n89⟩,h9,o7,o8,o9⟩ hr;have hun:=(mem_ready.1 hr).1;have hf0:=JM hun;have hlt:i<18:=zh9 hr;have hne:i ∉ [0,1,2,4,5,6,8,9,10]:=fun hm=>by rw[h9 i hm] at hun;cases hun
  have hi:i=3∨i=7∨i=11∨i=12∨i=13∨i=14∨i=15∨i=16∨i=17:=by
   simp only[List.mem_cons,List.not_mem_nil,or_false,not_or] at hne;omega
  rcases hi with rfl | rfl | rfl | rfl | rfl | rfl | rfl | rfl | rfl
  ·refine qB (d:=19) (R:=fun v w2=>v=tyV T1∧za [] w1 w2) rfl rfl (by rfl) 207 #[pointer (some ⟨fb,fo,none⟩),int i64 x.dst] (ZY rfl rfl rfl rfl (by go_simp)) ((H1.o w1 hk).mono fun e w2 h=>⟨_,h.1,rfl,h.2⟩) ?_
   rintro v w2 ⟨rfl,k2⟩;exact ⟨by simpa using hsz,hk.quiet k2,⟨v7,v8,v9,tyV T1,v23,v27,b7,b8,b9,rfl,(fun _=>rfl),(fun h=>e7 (by rw[zk false (by decide)] at h;exact h)),(fun h=>e11 (by rw[zk false (by decide)] at h;exact h)),m7.quiet k2 (by decide) (by decide),m8.quiet k2 (by decide) (by decide),m9.quiet k2 (by decide) (by decide),(fun h h'=>n78 (by rw[zk false (by decide)] at h;exact h) (by rw[zk false (by decide)] at h';exact h')),(fun h h'=>n79 (by rw[zk false (by decide)] at h;exact h) (by rw[zk false (by decide)] at h';exact h')),fun h h'=>n89 (by rw[zk false (by decide)] at h;exact h) (by rw[zk false (by decide)] at h';exact h')⟩,qG _ h9,zD _ o7 (fun e=>by cases e),zD _ o8 (fun e=>by cases e),zD _ o9 (fun e=>by cases e)⟩
  ·refine qB (d:=23) (R:=fun v w2=>v=tyV T2∧za [] w1 w2) rfl rfl (by rfl) 207 #[pointer (some ⟨fb,fo,none⟩),int i64 x.a] (ZY rfl rfl rfl rfl (by go_simp)) ((H2.o w1 hk).mono fun e w2 h=>⟨_,h.1,rfl,h.2⟩) ?_
   rintro v w2 ⟨rfl,k2⟩;exact ⟨by simpa using hsz,hk.quiet k2,⟨v7,v8,v9,v19,tyV T2,v27,b7,b8,b9,rfl,(fun h=>e3 (by rw[zk false (by decide)] at h;exact h)),(fun _=>rfl),(fun h=>e11 (by rw[zk false (by decide)] at h;exact h)),m7.quiet k2 (by decide) (by decide),m8.quiet k2 (by decide) (by decide),m9.quiet k2 (by decide) (by decide),(fun h h'=>n78 (by rw[zk false (by decide)] at h;exact h) (by rw[zk false (by decide)] at h';exact h')),(fun h h'=>n79 (by rw[zk false (by decide)] at h;exact h) (by rw[zk false (by decide)] at h';exact h')),fun h h'=>n89 (by rw[zk false (by decide)] at h;exact h) (by rw[zk false (by decide)] at h';exact h')⟩,qG _ h9,zD _ o7 (fun e=>by cases e),zD _ o8 (fun e=>by cases e),zD _ o9 (fun e=>by cases e)⟩
  ·refine qB (d:=27) (R:=fun v w2=>v=tyV T3∧za [] w1 w2) rfl rfl (by rfl) 207 #[pointer (some ⟨fb,fo,none⟩),int i64 x.b] (ZY rfl rfl rfl rfl (by go_simp)) ((H3.o w1 hk).mono fun e w2 h=>⟨_,h.1,rfl,h.2⟩) ?_
   rintro v w2 ⟨rfl,k2⟩;exact ⟨by simpa using hsz,hk.quiet k2,⟨v7,v8,v9,v19,v23,tyV T3,b7,b8,b9,rfl,(fun h=>e3 (by rw[zk false (by decide)] at h;exact h)),(fun h=>e7 (by rw[zk false (by decide)] at h;exact h)),(fun _=>rfl),m7.quiet k2 (by decide) (by decide),m8.quiet k2 (by decide) (by decide),m9.quiet k2 (by decide) (by decide),(fun h h'=>n78 (by rw[zk false (by decide)] at h;exact h) (by rw[zk false (by decide)] at h';exact h')),(fun h h'=>n79 (by rw[zk false (by decide)] at h;exact h) (by rw[zk false (by decide)] at h';exact h')),fun h h'=>n89 (by rw[zk false (by decide)] at h;exact h) (by rw[zk false (by decide)] at h';exact h')⟩,qG _ h9,zD _ o7 (fun e=>by cases e),zD _ o8 (fun e=>by cases e),zD _ o9 (fun e=>by cases e)⟩
  ·have hs0:l.getD 15 false=false:=by
    cases hb:l.getD 15 false with
    | false=>rfl
    | true=>exact absurd (o7 hb) (by rw[hf0];simp)
   refine zR (v:=pointer (some ⟨w1.heap.size,0,none⟩)) (w':=w1.alloc (.cells #[int i64 0,int i64 0] 60)) rfl (by rfl) (by kernel_rfl) ?_;exact ⟨by simpa using hsz,hk.quiet (za.alloc [] _ _),⟨pointer (some ⟨w1.heap.size,0,none⟩),v8,v9,v19,v23,v27,w1.heap.size,b8,b9,rfl,(fun h=>e3 (by rw[zk false (by decide)] at h;exact h)),(fun h=>e7 (by rw[zk false (by decide)] at h;exact h)),(fun h=>e11 (by rw[zk false (by decide)] at h;exact h)),JE.new hk hs0 (by decide),m8.quiet (za.alloc [] _ _) (by decide) (by decide),m9.quiet (za.alloc [] _ _) (by decide) (by decide),(fun h h' e=>by have:=m8.lt (by rw[zk false (by decide)] at h';exact h');omega),(fun h h' e=>by have:=m9.lt (by rw[zk false (by decide)] at h';exact h');omega),(fun h h'=>n89 (by rw[zk false (by decide)] at h;exact h) (by rw[zk false (by decide)] at h';exact h'))⟩,qG _ h9,zD _ o7 (fun e=>by cases e),zD _ o8 (fun e=>by cases e),zD _ o9 (fun e=>by cases e)⟩
  ·have hs0:l.getD 16 false=false:=by
    cases hb:l.getD 16 false with
    | false=>rfl
    | true=>exact absurd (o8 hb) (by rw[hf0];simp)
   refine zR (v:=pointer (some ⟨w1.heap.size,0,none⟩)) (w':=w1.alloc (.cells #[int i64 0,int i64 0] 60)) rfl (by rfl) (by kernel_rfl) ?_;exact ⟨by simpa using hsz,hk.quiet (za.alloc [] _ _),⟨v7,pointer (some ⟨w1.heap.size,0,none⟩),v9,v19,v23,v27,b7,w1.heap.size,b9,rfl,(fun h=>e3 (by rw[zk false (by decide)] at h;exact h)),(fun h=>e7 (by rw[zk false (by decide)] at h;exact h)),(fun h=>e11 (by rw[zk false (by decide)] at h;exact h)),m7.quiet (za.alloc [] _ _) (by decide) (by decide),JE.new hk hs0 (by decide),m9.quiet (za.alloc [] _ _) (by decide) (by decide),(fun h h' e=>by have:=m7.lt (by rw[zk false (by decide)] at h;exact h);omega),(fun h h'=>n79 (by rw[zk false (by decide)] at h;exact h) (by rw[zk false (by decide)] at h';exact h')),(fun h h' e=>by have:=m9.lt (by rw[zk false (by decide)] at h';exact h');omega)⟩,qG _ h9,zD _ o7 (fun e=>by cases e),zD _ o8 (fun e=>by cases e),zD _ o9 (fun e=>by cases e)⟩
  ·have hs0:l.getD 17 false=false:=by
    cases hb:l.getD 17 false with
    | false=>rfl
    | true=>exact absurd (o9 hb) (by rw[hf0];simp)
   refine zR (v:=pointer (some ⟨w1.heap.size,0,none⟩)) (w':=w1.alloc (.cells #[int i64 0,int i64 0] 60)) rfl (by rfl) (by kernel_rfl) ?_;exact ⟨by simpa using hsz,hk.quiet (za.alloc [] _ _),⟨v7,v8,pointer (some ⟨w1.heap.size,0,none⟩),v19,v23,v27,b7,b8,w1.heap.size,rfl,(fun h=>e3 (by rw[zk false (by decide)] at h;exact h)),(fun h=>e7 (by rw[zk false (by decide)] at h;exact h)),(fun h=>e11 (by rw[zk false (by decide)] at h;exact h)),m7.quiet (za.alloc [] _ _) (by decide) (by decide),m8.quiet (za.alloc [] _ _) (by decide) (by decide),JE.new hk hs0 (by decide),(fun h h'=>n78 (by rw[zk false (by decide)] at h;exact h) (by rw[zk false (by decide)] at h';exact h')),(fun h h' e=>by have:=m7.lt (by rw[zk false (by decide)] at h;exact h);omega),(fun h h' e=>by have:=m8.lt (by rw[zk false (by decide)] at h;exact h);omega)⟩,qG _ h9,zD _ o7 (fun e=>by cases e),zD _ o8 (fun e=>by cases e),zD _ o9 (fun e=>by cases e)⟩
  ·have hm:=qx hr 12 (by kernel_rfl)
   have hc:=qx hr 3 (by kernel_rfl);obtain ⟨hv,hge,hty⟩:=m7 hm;have hT:=e3 hc;subst hv hT;have z0:=zg hty 0;have z1:=zg hty 1;have c0:=zc hty 0;have c1:=zc hty 1;refine QF (w':=(w1.setCell ⟨b7,0,none⟩ (int i64 T1.1)).setCell ⟨b7,1,none⟩ (int i64 T1.2)) rfl (by rfl) (stv hty rfl rfl rfl) ?_;exact ⟨by simpa using hsz,hk.trans (zas _ b7 _ _) (fun x hx hl=>by simp at hx;omega),⟨pointer (some ⟨b7,0,none⟩),v8,v9,tyV T1,v23,v27,b7,b8,b9,rfl,(fun _=>rfl),(fun h=>e7 (by rw[zk false (by decide)] at h;exact h)),(fun h=>e11 (by rw[zk false (by decide)] at h;exact h)),m7.put (by omega) (by decide),m8.far (fun h e=>n78 hm h e.symm) (by decide) (by decide),m9.far (fun h e=>n79 hm h e.symm) (by decide) (by decide),(fun h h'=>n78 (by rw[zk false (by decide)] at h;exact h) (by rw[zk false (by decide)] at h';exact h')),(fun h h'=>n79 (by rw[zk false (by decide)] at h;exact h) (by rw[zk false (by decide)] at h';exact h')),(fun h h'=>n89 (by rw[zk false (by decide)] at h;exact h) (by rw[zk false (by decide)] at h';exact h'))⟩,qG _ h9,zD _ o7 (fun _=>hm),zD _ o8 (fun e=>by cases e),zD _ o9 (fun e=>by cases e)⟩
  ·have hm:=qx hr 13 (by kernel_rfl)
   have hc:=qx hr 7 (by kernel_rfl);obtain ⟨hv,hge,hty⟩:=m8 hm;have hT:=e7 hc;subst hv hT;have z0:=zg hty 0;have z1:=zg hty 1;have c0:=zc hty 0;have c1:=zc hty 1;refine QF (w':=(w1.setCell ⟨b8,0,none⟩ (int i64 T2.1)).setCell ⟨b8,1,none⟩ (int i64 T2.2)) rfl (by rfl) (stv hty rfl rfl rfl) ?_;exact ⟨by simpa using hsz,hk.trans (zas _ b8 _ _) (fun x hx hl=>by simp at hx;omega),⟨v7,pointer (some ⟨b8,0,none⟩),v9,v19,tyV T2,v27,b7,b8,b9,rfl,(fun h=>e3 (by rw[zk false (by decide)] at h;exact h)),(fun _=>rfl),(fun h=>e11 (by rw[zk false (by decide)] at h;exact h)),m7.far (fun h=>n78 h hm) (by decide) (by decide),m8.put (by omega) (by decide),m9.far (fun h e=>n89 hm h e.symm) (by decide) (by decide),(fun h h'=>n78 (by rw[zk false (by decide)] at h;exact h) (by rw[zk false (by decide)] at h';exact h')),(fun h h'=>n79 (by rw[zk false (by decide)] at h;exact h) (by rw[zk false (by decide)] at h';exact h')),(fun h h'=>n89 (by rw[zk false (by decide)] at h;exact h) (by rw[zk false (by decide)] at h';exact h'))⟩,qG _ h9,zD _ o7 (fun e=>by cases e),zD _ o8 (fun _=>hm),zD _ o9 (fun e=>by cases e)⟩
  ·have hm:=qx hr 14 (by kernel_rfl)
   have hc:=qx hr 11 (by kernel_rfl);obtain ⟨hv,hge,hty⟩:=m9 hm;have hT:=e11 hc;subst hv hT;have z0:=zg hty 0;have z1:=zg hty 1;have c0:=zc hty 0;have c1:=zc hty 1;refine QF (w':=(w1.setCell ⟨b9,0,none⟩ (int i64 T3.1)).setCell ⟨b9,1,none⟩ (int i64 T3.2)) rfl (by rfl) (stv hty rfl rfl rfl) ?_;exact ⟨by simpa using hsz,hk.trans (zas _ b9 _ _) (fun x hx hl=>by simp at hx;omega),⟨v7,v8,pointer (some ⟨b9,0,none⟩),v19,v23,tyV T3,b7,b8,b9,rfl,(fun h=>e3 (by rw[zk false (by decide)] at h;exact h)),(fun h=>e7 (by rw[zk false (by decide)] at h;exact h)),(fun _=>rfl),m7.far (fun h=>n79 h hm) (by decide) (by decide),m8.far (fun h=>n89 h hm) (by decide) (by decide),m9.put (by omega) (by decide),(fun h h'=>n78 (by rw[zk false (by decide)] at h;exact h) (by rw[zk false (by decide)] at h';exact h')),(fun h h'=>n79 (by rw[zk false (by decide)] at h;exact h) (by rw[zk false (by decide)] at h';exact h')),(fun h h'=>n89 (by rw[zk false (by decide)] at h;exact h) (by rw[zk false (by decide)] at h';exact h'))⟩,qG _ h9,zD _ o7 (fun e=>by cases e),zD _ o8 (fun e=>by cases e),zD _ o9 (fun _=>hm)⟩
 case hd=>
  rintro l a w1 ⟨hsz,hk,⟨v7,v8,v9,v19,v23,v27,b7,b8,b9,rfl,e3,e7,e11,m7,m8,m9, -, -, -⟩, -, -, -, -⟩ hr;have hall:=Zb hsz hr (by kernel_rfl);obtain ⟨hv7, -,t7⟩:=m7 (hall 12 (by decide));obtain ⟨hv8, -,t8⟩:=m8 (hall 13 (by decide));obtain ⟨hv9, -,t9⟩:=m9 (hall 14 (by decide));rw[hall 15 (by decide)] at t7;rw[hall 16 (by decide)] at t8;rw[hall 17 (by decide)] at t9;have hv19:=e3 (hall 3 (by decide));have hv23:=e7 (hall 7 (by decide));have hv27:=e11 (hall 11 (by decide));subst hv7 hv8 hv9 hv19 hv23 hv27;exact hQ w1 b7 b8 b9 hk t7 t8 t9
structure zi1 (w:World) (n:Nat) (r:Int):Prop where
 h0:w.heap[n]? = some (.cells #[.slice none 0 0,int i64 0,int i64 0] 75 (0,0))
 h1:w.heap[n+1]? = some (.cells #[int i64 0,int i64 0] 60 (0,0))
 h2:w.heap[n+2]? = some (.cells #[int i64 1,int i64 0,int i64 0,int i64 0,int i64 7,.slice none 0 0] 65 (0,0))
 h3:w.heap[n+3]? = some (.cells #[.slice (some ⟨n+2,0,none⟩) 1 1,int i64 3,int i64 r,int i64 0,int i64 0] 68 (0,0))
 h4:w.heap[n+4]? = some (.cells #[int i64 0,.slice (some ⟨n+1,0,none⟩) 1 1,.slice (some ⟨n+3,0,none⟩) 1 1] 50 (0,0))
 h5:w.heap[n+5]? = some (.cells #[.slice none 0 0,.slice (some ⟨n,0,none⟩) 1 1,.slice none 0 0,.slice none 0 0,.slice (some ⟨n+4,0,none⟩) 1 1,int i64 0] 57 (0,0))
theorem zi1.quiet{w':World}{r:Int}(h:zi1 w n r)(k:za [] w w'):zi1 w' n r:=
 ⟨zd h.h0 k,zd h.h1 k,zd h.h2 k,zd h.h3 k,zd h.h4 k,zd h.h5 k⟩
def in1:In8:=⟨1,0,0,0,7,[]⟩
def bl1(r:Int):Bl8:=⟨[in1],3,r,0,0⟩
def fu1(r:Int):Fu8:=⟨0,[(0,0)],[bl1 r]⟩
def pr1(r:Int):Pr8:=⟨[],[([],0,0)],[],[],[fu1 r],0⟩
theorem zq.one{α:Type}{R:World→Nat→Nat→α→Prop}{x:α}(h:R w b 0 x):zq w c R (some ⟨b,0,none⟩) [x]:=
 .inr ⟨b,0,rfl,fun j y hy=>by
  cases j with
  | zero=>simp at hy;subst hy;simpa using h
  | succ j=>simp at hy⟩
theorem SlC.one{α:Type}{R:World→Nat→Nat→α→Prop}{b':Nat}{x:α}(hc:w.cell? ⟨b,o,none⟩=some (.slice (some ⟨b',0,none⟩) 1 1))(h:R w b' 0 x):SlC c R w b o [x]:=
 ⟨_,1,hc,zq.one h,Nat.le_refl _,by unfold maxLen;simp⟩
theorem ZW{o:Obj}(h:w.heap.size=n):(w.alloc o).heap[n]? = some o:=by subst h;exact ze w o
theorem zjv(w:World):Calls Tryz.prog 37 #[] w fun e w'=>e=.returned (pointer (some ⟨w.heap.size+5,0,none⟩))∧zi1 w' w.heap.size 0∧za [] w w':=by
 obtain ⟨n,hn⟩:∃ n,n=w.heap.size:=⟨_,rfl⟩;rw[← hn];obtain ⟨w1,e1⟩:∃ w1,w1=w.alloc (.cells #[.slice none 0 0,int i64 0,int i64 0] 75):=⟨_,rfl⟩;obtain ⟨w2,e2⟩:∃ w2,w2=w1.alloc (.cells #[int i64 0,int i64 0] 60):=⟨_,rfl⟩;obtain ⟨w3,e3⟩:∃ w3,w3=w2.alloc (.cells #[int i64 1,int i64 0,int i64 0,int i64 0,int i64 7,.slice none 0 0] 65):=⟨_,rfl⟩;obtain ⟨w4,e4⟩:∃ w4,w4=w3.alloc (.cells #[.slice (some ⟨n+2,0,none⟩) 1 1,int i64 3,int i64 0,int i64 0,int i64 0] 68):=⟨_,rfl⟩;obtain ⟨w5,e5⟩:∃ w5,w5=w4.alloc (.cells #[int i64 0,.slice (some ⟨n+1,0,none⟩) 1 1,.slice (some ⟨n+3,0,none⟩) 1 1] 50):=⟨_,rfl⟩;obtain ⟨w6,e6⟩:∃ w6,w6=w5.alloc (.cells #[.slice none 0 0,.slice (some ⟨n,0,none⟩) 1 1,.slice none 0 0,.slice none 0 0,.slice (some ⟨n+4,0,none⟩) 1 1,int i64 0] 57):=⟨_,rfl⟩;have s1:w1.heap.size=n+1:=by rw[e1,World.size_alloc,hn]
 have s2:w2.heap.size=n+2:=by rw[e2,World.size_alloc,s1]
 have s3:w3.heap.size=n+3:=by rw[e3,World.size_alloc,s2]
 have s4:w4.heap.size=n+4:=by rw[e4,World.size_alloc,s3]
 have s5:w5.heap.size=n+5:=by rw[e5,World.size_alloc,s4]
 have k1:za [] w w1:=by rw[e1];exact za.alloc _ _ _
 have k2:za [] w1 w2:=by rw[e2];exact za.alloc _ _ _
 have k3:za [] w2 w3:=by rw[e3];exact za.alloc _ _ _
 have k4:za [] w3 w4:=by rw[e4];exact za.alloc _ _ _
 have k5:za [] w4 w5:=by rw[e5];exact za.alloc _ _ _
 have k6:za [] w5 w6:=by rw[e6];exact za.alloc _ _ _
 have H:Box (zi1 w6 n 0∧za [] w w6):=hid ⟨⟨
  zd (by rw[e1];exact ZW hn.symm) ((((k2.quiet k3).quiet k4).quiet k5).quiet k6),
  zd (by rw[e2];exact ZW s1) (((k3.quiet k4).quiet k5).quiet k6),
  zd (by rw[e3];exact ZW s2) ((k4.quiet k5).quiet k6),
  zd (w:=w4) (by rw[e4];exact ZW s3) (k5.quiet k6),
  zd (w:=w5) (by rw[e5];exact ZW s4) k6,
  by rw[e6];exact ZW s5⟩,((((k1.quiet k2).quiet k3).quiet k4).quiet k5).quiet k6⟩
 have HW:=hid e6;subst e5 e4 e3 e2 e1;clear s1 s2 s3 s4 s5 k1 k2 k3 k4 k5 k6 e6;subst hn;rw[HW.o] at H;clear HW;go_enter Tryz.func37,Tryz.ntmps37;go_wp2_with fail;go_ret;exact ⟨rfl,H.o⟩
theorem zby{b:Bool}(ho:oi.op=.unOp .not 4 x)(hx:ev x=.bool b)(hr:(!b)=r:=by rfl):(execOp ev oi).run Tryz.prog w=.ok (.value (.bool r)) w:=by
 subst hr;simp[execOp,ho,hx,go_sem]
theorem qo(hc:w.cell? ad=some v)(ho:oi.op=.load 3 y)(hy:ev y=.pointer (some ad)):(execOp ev oi).run Tryz.prog w=.ok (.value v) w:=by simp[execOp,ho,hy,go_sem,hc]
theorem qY(hc:w.cell? ad=some v)(ho:oi.op=.load 47 y)(hy:ev y=.pointer (some ad)):(execOp ev oi).run Tryz.prog w=.ok (.value v) w:=by simp[execOp,ho,hy,go_sem,hc]
theorem JH(ho:oi.op=.indexAddr 47 x y)(hx:ev x=.slice (some ⟨b,o,none⟩) n c)(hy:ev y=int i64 (j:Int))(hj:(j:Int)<(n:Int)):(execOp ev oi).run Tryz.prog w=.ok (.value (pointer (some ⟨b,o+j * 2,none⟩))) w:=by
 simp[execOp,ho,hx,hy,go_sem];intro h';omega
theorem Qq(ho:oi.op=.call { callee:=.builtin .len,args:=#[x],argTypes:=#[47] })(hx:ev x=.slice a n c):(execOp ev oi).run Tryz.prog w=.ok (.value (int i64 (n:Int))) w:=by
 obtain ⟨dst,op,type,pos,after,guard⟩:=oi;simp only at ho;subst ho;simp[hx,go_sem]
theorem J1(hc:w.cell? ad=some v)(ho:oi.op=.load 51 y)(hy:ev y=.pointer (some ad)):(execOp ev oi).run Tryz.prog w=.ok (.value v) w:=by simp[execOp,ho,hy,go_sem,hc]
theorem QJ(ho:oi.op=.call { callee:=.builtin .len,args:=#[x],argTypes:=#[51] })(hx:ev x=.slice a n c):(execOp ev oi).run Tryz.prog w=.ok (.value (int i64 (n:Int))) w:=by
 obtain ⟨dst,op,type,pos,after,guard⟩:=oi;simp only at ho;subst ho;simp[hx,go_sem]
theorem j4(hc:w.cell? ad=some v)(ho:oi.op=.load 52 y)(hy:ev y=.pointer (some ad)):(execOp ev oi).run Tryz.prog w=.ok (.value v) w:=by simp[execOp,ho,hy,go_sem,hc]
theorem zcz(ho:oi.op=.indexAddr 52 x y)(hx:ev x=.slice (some ⟨b,o,none⟩) n c)(hy:ev y=int i64 (j:Int))(hj:(j:Int)<(n:Int)):(execOp ev oi).run Tryz.prog w=.ok (.value (pointer (some ⟨b,o+j * 3,none⟩))) w:=by
 simp[execOp,ho,hx,hy,go_sem];intro h';omega
theorem jR(ho:oi.op=.call { callee:=.builtin .len,args:=#[x],argTypes:=#[52] })(hx:ev x=.slice a n c):(execOp ev oi).run Tryz.prog w=.ok (.value (int i64 (n:Int))) w:=by
 obtain ⟨dst,op,type,pos,after,guard⟩:=oi;simp only at ho;subst ho;simp[hx,go_sem]
theorem zbm(hc:w.cell? ad=some v)(ho:oi.op=.load 53 y)(hy:ev y=.pointer (some ad)):(execOp ev oi).run Tryz.prog w=.ok (.value v) w:=by simp[execOp,ho,hy,go_sem,hc]
theorem ziy(ho:oi.op=.indexAddr 53 x y)(hx:ev x=.slice (some ⟨b,o,none⟩) n c)(hy:ev y=int i64 (j:Int))(hj:(j:Int)<(n:Int)):(execOp ev oi).run Tryz.prog w=.ok (.value (pointer (some ⟨b,o+j,none⟩))) w:=by
 simp[execOp,ho,hx,hy,go_sem];intro h';omega
theorem zbE(ho:oi.op=.call { callee:=.builtin .len,args:=#[x],argTypes:=#[53] })(hx:ev x=.slice a n c):(execOp ev oi).run Tryz.prog w=.ok (.value (int i64 (n:Int))) w:=by
 obtain ⟨dst,op,type,pos,after,guard⟩:=oi;simp only at ho;subst ho;simp[hx,go_sem]
theorem zew(ho:oi.op=.indexAddr 54 x y)(hx:ev x=.slice (some ⟨b,o,none⟩) n c)(hy:ev y=int i64 (j:Int))(hj:(j:Int)<(n:Int)):(execOp ev oi).run Tryz.prog w=.ok (.value (pointer (some ⟨b,o+j * 3,none⟩))) w:=by
 simp[execOp,ho,hx,hy,go_sem];intro h';omega
theorem jN(hc:w.cell? ad=some v)(ho:oi.op=.load 55 y)(hy:ev y=.pointer (some ad)):(execOp ev oi).run Tryz.prog w=.ok (.value v) w:=by simp[execOp,ho,hy,go_sem,hc]
theorem JC(ho:oi.op=.indexAddr 55 x y)(hx:ev x=.slice (some ⟨b,o,none⟩) n c)(hy:ev y=int i64 (j:Int))(hj:(j:Int)<(n:Int)):(execOp ev oi).run Tryz.prog w=.ok (.value (pointer (some ⟨b,o+j * 3,none⟩))) w:=by
 simp[execOp,ho,hx,hy,go_sem];intro h';omega
theorem Qv(ho:oi.op=.call { callee:=.builtin .len,args:=#[x],argTypes:=#[55] })(hx:ev x=.slice a n c):(execOp ev oi).run Tryz.prog w=.ok (.value (int i64 (n:Int))) w:=by
 obtain ⟨dst,op,type,pos,after,guard⟩:=oi;simp only at ho;subst ho;simp[hx,go_sem]
theorem zg6(hc:w.cell? ad=some v)(ho:oi.op=.load 63 y)(hy:ev y=.pointer (some ad)):(execOp ev oi).run Tryz.prog w=.ok (.value v) w:=by simp[execOp,ho,hy,go_sem,hc]
theorem zhA(ho:oi.op=.indexAddr 63 x y)(hx:ev x=.slice (some ⟨b,o,none⟩) n c)(hy:ev y=int i64 (j:Int))(hj:(j:Int)<(n:Int)):(execOp ev oi).run Tryz.prog w=.ok (.value (pointer (some ⟨b,o+j,none⟩))) w:=by
 simp[execOp,ho,hx,hy,go_sem];intro h';omega
theorem jq(h0:w.cell? ⟨b,o+0,none⟩=some v0)(h1:w.cell? ⟨b,o+1,none⟩=some v1)(ho:oi.op=.load 60 y)(hy:ev y=pointer (some ⟨b,o,none⟩)):(execOp ev oi).run Tryz.prog w=.ok (.value (agg #[v0,v1])) w:=by
 rw[Nat.add_zero] at h0;simp[execOp,ho,hy,go_sem,h0,h1]
theorem zk7(h0:w.cell? ⟨b,o+0,none⟩=some v0)(h1:w.cell? ⟨b,o+1,none⟩=some v1)(h2:w.cell? ⟨b,o+2,none⟩=some v2)(ho:oi.op=.load 46 y)(hy:ev y=pointer (some ⟨b,o,none⟩)):(execOp ev oi).run Tryz.prog w=.ok (.value (agg #[v0,v1,v2])) w:=by
 rw[Nat.add_zero] at h0;simp[execOp,ho,hy,go_sem,h0,h1,h2]
theorem zcv{a b:Int}(ho:oi.op=.binOp .gtr 3 x y 3)(hx:ev x=int i64 a)(hy:ev y=int i64 b)(hr:decide (b<a)=r):(execOp ev oi).run Tryz.prog w=.ok (.value (.bool r)) w:=by
 simp[execOp,ho,hx,hy,go_sem,hr]
theorem qD{ts:Array TypeId}(ho:oi.op=.call { callee:=.value (.func f),args:=#[x0,x1],argTypes:=ts })(hf:ev (.func f)=.func (.func f) #[] #[])(h0:ev x0=v0)(h1:ev x1=v1)(hc:(callFunc f #[v0,v1]).run P w=.ok (.enter f #[v0,v1]) w):(execOp ev oi).run P w=.ok (.enter f #[v0,v1]) w:=by
 subst h0 h1;simp[execOp,ho,hf,go_sem,hc]
theorem zkq{x2:Operand}{ts:Array TypeId}(ho:oi.op=.call { callee:=.value (.func f),args:=#[x0,x1,x2],argTypes:=ts })(hf:ev (.func f)=.func (.func f) #[] #[])(h0:ev x0=v0)(h1:ev x1=v1)(h2:ev x2=v2)(hc:(callFunc f #[v0,v1,v2]).run P w=.ok (.enter f #[v0,v1,v2]) w):(execOp ev oi).run P w=.ok (.enter f #[v0,v1,v2]) w:=by
 subst h0 h1 h2;simp[execOp,ho,hf,go_sem,hc]
theorem zl6{x2 x3:Operand}{ts:Array TypeId}{v3:Value}(ho:oi.op=.call { callee:=.value (.func f),args:=#[x0,x1,x2,x3],argTypes:=ts })(hf:ev (.func f)=.func (.func f) #[] #[])(h0:ev x0=v0)(h1:ev x1=v1)(h2:ev x2=v2)(h3:ev x3=v3)(hc:(callFunc f #[v0,v1,v2,v3]).run P w=.ok (.enter f #[v0,v1,v2,v3]) w):(execOp ev oi).run P w=.ok (.enter f #[v0,v1,v2,v3]) w:=by
 subst h0 h1 h2 h3;simp[execOp,ho,hf,go_sem,hc]
theorem zgo{a b c d:Int}(ho:oi.op=.binOp .eql 60 x y 60)(hx:ev x=agg #[int i64 a,int i64 b])(hy:ev y=agg #[int i64 c,int i64 d])(hr:tyE (a,b) (c,d)=r):(execOp ev oi).run Tryz.prog w=.ok (.value (.bool r)) w:=by
 subst hr;simp[execOp,ho,hx,hy,go_sem];unfold tyE;by_cases h:a=c <;> by_cases h':b=d <;> simp[h,h']
theorem zig{a b c d:Int}(ho:oi.op=.binOp .neq 60 x y 60)(hx:ev x=agg #[int i64 a,int i64 b])(hy:ev y=agg #[int i64 c,int i64 d])(hr:tyE (a,b) (c,d)=r):(execOp ev oi).run Tryz.prog w=.ok (.value (.bool (!r))) w:=by
 subst hr;simp[execOp,ho,hx,hy,go_sem];unfold tyE;by_cases h:a=c <;> by_cases h':b=d <;> simp[h,h']
theorem zne{p m:Nat}{ad:Option Addr}{k:Operand}(ho:oi.op=.slice 47 x (some k) none none)(hx:ev x=.slice (some ⟨b,o,none⟩) n p)(hk:ev k=int i64 1)(hn:n=m+1)(hp:p=c+1)(had:ad=if c=0 then some ⟨b,o,none⟩ else some ⟨b,o+2,none⟩):(execOp ev oi).run Tryz.prog w=.ok (.value (.slice ad m c)) w:=by
 subst hn hp had;have h1:(1:Int)≤(m:Int)+1:=by omega
 simp[execOp,ho,hx,hk,go_sem,h1]
theorem zmd(ho:oi.op=.indexAddr 47 x y)(hx:ev x=.slice (some ⟨b,o,none⟩) n c)(hy:ev y=int i64 0)(hj:(0:Int)<(n:Int)):(execOp ev oi).run Tryz.prog w=.ok (.value (pointer (some ⟨b,o,none⟩))) w:=by
 simp[execOp,ho,hx,hy,go_sem];omega
theorem zJ(v u:Value)(w:World):(callFunc 171 #[v,u]).run Tryz.prog w=.ok (.enter 171 #[v,u]) w:=by go_simp
theorem za3(v u:Value)(w:World):(callFunc 204 #[v,u]).run Tryz.prog w=.ok (.enter 204 #[v,u]) w:=by go_simp
theorem zm6{f:Fu8}(hf:FuC w fb fo f)(x:In8)(ar:Value)(hop:x.op=1):Calls Tryz.prog 206 #[pointer (some ⟨pb,po,none⟩),pointer (some ⟨fb,fo,none⟩),zu x ar] w fun e w'=>e=.returned (.bool ((zj f x.dst).1 == 0))∧za [] w w':=by
 have ka:=za.alloc [] w (.cells #[int i64 x.op,int i64 x.dst,int i64 x.a,int i64 x.b,int i64 x.n,ar] 65);have hn:=ze w (.cells #[int i64 x.op,int i64 x.dst,int i64 x.a,int i64 x.b,int i64 x.n,ar] 65);have HRT:=hid fun (r:Int) (w':World) (k:za [] w w')=>zo (FuC.stays _ _ _ _ _ k hf) r;have KA:=hid ka;have HN:=hid hn;clear hf ka hn;unfold zu;rw[hop] at KA HN ⊢;go_enter Tryz.func206,Tryz.ntmps206;go_upto_region 1 with fail;generalize w.alloc (.cells #[int i64 1,int i64 x.dst,int i64 x.a,int i64 x.b,int i64 x.n,ar] 65)=WA at *;generalize w.heap.size=q at *;have H1:=hid fun (w':World) (k:za [] WA w')=>HRT.o x.dst w' (KA.o.quiet k);have H2:=hid fun (w':World) (k:za [] WA w')=>HRT.o x.a w' (KA.o.quiet k);have H3:=hid fun (w':World) (k:za [] WA w')=>HRT.o x.b w' (KA.o.quiet k);generalize hT1:zj f x.dst=T1 at *;generalize hT2:zj f x.a=T2 at *;generalize hT3:zj f x.b=T3 at *;have HT1:=hid hT1;have HT2:=hid hT2;have HT3:=hid hT3;clear hT1 hT2 hT3;refine qj HN.o H1.o H2.o H3.o (fun _ _ _ _ _ h=>h) (fun w1 b7 b8 b9 hk t7 t8 t9=> ?_)
 all_goals
  have T7:Box (qm w1 b7 T1):=hid t7;have T8:Box (qm w1 b8 T2):=hid t8;have T9:Box (qm w1 b9 T3):=hid t9;have K1:=hid (KA.o.quiet hk);have h5:=zd HN.o hk;have i0:=zc h5 0;have HI5:=hid h5;clear t7 t8 t9 h5 H1 H2 H3 HN hk;have s0:=zc T7.o 0;have s1:=zc T7.o 1;have p0:=zc T8.o 0;have p1:=zc T8.o 1;have r0:=zc T9.o 0;have r1:=zc T9.o 1;go_wp2_with fail;go_ret;exact ⟨by simp only[HT1.o];rfl,K1.o⟩
theorem zkW{s t:Int × Int}:tyE s t=true ↔ s=t:=by
 unfold tyE;rw[Bool.and_eq_true,beq_iff_eq,beq_iff_eq];exact ⟨fun h=>Prod.ext h.1 h.2,fun h=>by rw[h];exact ⟨rfl,rfl⟩⟩
def QW(P:Pr8)(n:Int):List (Int × Int) × Int × Int:=P.sigs.getD n.toNat ([],0,0)
def if8(P:Pr8)(n:Int):List Int:=P.ifs.getD n.toNat []
def im8(P:Pr8)(k:Nat):Int × Int × List Int:=P.ims.getD k (0,0,[])
def mtB(r:Int)(s t:List (Int × Int) × Int × Int):Bool:=decide (s.1=(1,r) :: t.1) && tyE s.2 t.2
def isM(P:Pr8)(r f n:Int):Bool:=inB f P.funcs.length && (inB (zf P f.toNat).sig P.sigs.length && (inB n P.sigs.length && mtB r (QW P (zf P f.toNat).sig) (QW P n)))
def Jc(P:Pr8)(m:Int × Int × List Int):Bool:=inB m.1 P.recs.length && (inB m.2.1 P.ifs.length && (decide (m.2.2.length=(if8 P m.2.1).length) && (List.range m.2.2.length).all fun k=>isM P m.1 (m.2.2.getD k 0) ((if8 P m.2.1).getD k 0)))
def zla(P:Pr8):List (Int × Int):=P.ims.map fun m=>(m.1,m.2.1)
def zbd(P:Pr8):Bool:=decide (zla P).Nodup && P.ims.all (Jc P)
theorem zbu{P:Pr8}{i:Nat}(h:i<P.ims.length):P.ims[i]? = some (im8 P i):=zi h
end Go.Proofs.YtgmbkiagdhjpnaaGreatDoor
