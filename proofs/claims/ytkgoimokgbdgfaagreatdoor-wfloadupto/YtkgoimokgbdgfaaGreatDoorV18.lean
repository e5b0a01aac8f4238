import Derived.Test.YtkgoimokgbdgfaaGreatDoorV12
import Derived.Test.YtkgoimokgbdgfaaGreatDoorV17

namespace Go.Proofs.YtkgoimokgbdgfaaGreatDoor
open Go.RowKit
open Go.Value (int pointer agg)
open Go.IntKind (i64)
set_option maxRecDepth 20000
set_option maxHeartbeats 8000000
variable {A:Act}{b c i n q:Nat}{ev:Operand→Value}{l:Array Bool}{o oi:Oper}{v:Value}{vs:List Value}{w:World}{x y:Operand}
def zom:Option Code→Array Oper
 | some (.seq _ (.seq (.region _ o _) _))=>o
 | _=>#[]
theorem j6{Q:Exit→Act→World→Prop}{pb po fb fo:Nat}{o:Int}{x:In8}{ar:Value}{WA:World}{T1 T2 T3:Int × Int}(HN:WA.heap[q]? = some (.cells #[int i64 o,int i64 x.dst,int i64 x.a,int i64 x.b,int i64 x.n,ar] 39 (0,0)))(h1:∀ w':World,zc [] WA w'→Calls Tryz.prog 151 #[pointer (some ⟨fb,fo,none⟩),int i64 x.dst] w' fun e w2=>e=.returned (tyV T1)∧zc [] w' w2)(h2:∀ w':World,zc [] WA w'→Calls Tryz.prog 151 #[pointer (some ⟨fb,fo,none⟩),int i64 x.a] w' fun e w2=>e=.returned (tyV T2)∧zc [] w' w2)(h3:∀ w':World,zc [] WA w'→Calls Tryz.prog 151 #[pointer (some ⟨fb,fo,none⟩),int i64 x.b] w' fun e w2=>e=.returned (tyV T3)∧zc [] w' w2)
  (hP:∀ p a d v w,Q (Exit.panic p) (Act.put a (some d) v) w→Q (Exit.panic p) a w) (hQ:∀ (w1:World) (b7 b8 b9:Nat),zc [] WA w1→jD w1 b7 T1→jD w1 b8 T2→jD w1 b9 T3→Q .normal { tmps:=#[pointer (some ⟨pb,po,none⟩),pointer (some ⟨fb,fo,none⟩),agg #[int i64 o,int i64 x.dst,int i64 x.a,int i64 x.b,int i64 x.n,ar],undef,undef,pointer (some ⟨q,0,none⟩),.bool false,pointer (some ⟨b7,0,none⟩),pointer (some ⟨b8,0,none⟩),pointer (some ⟨b9,0,none⟩),undef,undef,undef,undef,undef,undef,pointer (some ⟨fb,fo,none⟩),pointer (some ⟨q,1,none⟩),int i64 x.dst,tyV T1,pointer (some ⟨fb,fo,none⟩),pointer (some ⟨q,2,none⟩),int i64 x.a,tyV T2,pointer (some ⟨fb,fo,none⟩),pointer (some ⟨q,3,none⟩),int i64 x.b,tyV T3,undef,undef,undef,undef,undef,undef,undef,undef,undef,undef,undef,undef,undef,undef,undef,undef,undef,undef,undef,undef,undef,undef,undef,undef,undef,undef,undef,undef,undef,undef,undef,undef,undef,undef,undef,undef,undef,undef,undef,undef,undef,undef,undef,undef,undef,undef,undef,undef,undef,undef,undef,undef,undef,undef,undef,undef,undef,undef,undef,undef,undef,undef,undef,undef,undef,undef,undef,undef,undef,undef,undef,undef,undef,undef,undef,undef,undef,undef,undef,undef,undef,undef,undef,undef,undef,undef,undef,undef,undef,undef,undef,undef,undef,undef,undef,undef,undef,undef,undef,undef,undef,undef,undef,undef,undef,undef,undef,undef,undef,undef,undef,undef,undef,undef,undef,undef,undef,undef,undef,undef,undef,undef,undef,undef,undef,undef,undef,undef,undef,undef,undef,undef,undef,undef,undef,undef,undef,undef,undef,undef,undef,undef,undef],defers:=[] } w1):(Code.region 1 (zom Tryz.f150.body) true).wp Tryz.prog Q { tmps:=#[pointer (some ⟨pb,po,none⟩),pointer (some ⟨fb,fo,none⟩),agg #[int i64 o,int i64 x.dst,int i64 x.a,int i64 x.b,int i64 x.n,ar],undef,undef,pointer (some ⟨q,0,none⟩),.bool false,undef,undef,undef,undef,undef,undef,undef,undef,undef,undef,undef,undef,undef,undef,undef,undef,undef,undef,undef,undef,undef,undef,undef,undef,undef,undef,undef,undef,undef,undef,undef,undef,undef,undef,undef,undef,undef,undef,undef,undef,undef,undef,undef,undef,undef,undef,undef,undef,undef,undef,undef,undef,undef,undef,undef,undef,undef,undef,undef,undef,undef,undef,undef,undef,undef,undef,undef,undef,undef,undef,undef,undef,undef,undef,undef,undef,undef,undef,undef,undef,undef,undef,undef,undef,undef,undef,undef,undef,undef,undef,undef,undef,undef,undef,undef,undef,undef,undef,undef,undef,undef,undef,undef,undef,undef,undef,undef,undef,undef,undef,undef,undef,undef,undef,undef,undef,undef,undef,undef,undef,undef,undef,undef,undef,undef,undef,undef,undef,undef,undef,undef,undef,undef,undef,undef,undef,undef,undef,undef,undef,undef,undef,undef,undef,undef,undef,undef,undef,undef,undef,undef,undef,undef,undef,undef,undef,undef,undef,undef,undef,undef,undef,undef,undef],defers:=[] } WA:=by
 have H1:=hid h1;have H2:=hid h2;have H3:=hid h3;clear h1 h2 h3;have IN:Box (∀ w',zc [] WA w'→w'.cell? ⟨q,1,none⟩=some (int i64 x.dst)∧w'.cell? ⟨q,2,none⟩=some (int i64 x.a)∧w'.cell? ⟨q,3,none⟩=some (int i64 x.b)):=hid fun w' k=>by
  have:=ze HN k;exact ⟨zd this 1,zd this 2,zd this 3⟩
 have HD0:=hid (zc.drew [] WA);have ld:∀ {w':World}{ad:Addr}{v:Value}{ev:Operand→Value}{oi:Oper}{y:Operand},w'.cell? ad=some v→oi.op=.load 3 y→ev y=.pointer (some ad)→(execOp ev oi).run Tryz.prog w'=.ok (.value v) w':=fun hc ho hy=>by
  simp[execOp,ho,hy,go_sem,hc]
 have stv:∀ {w1:World}{b:Nat}{t t':Int × Int}{ev:Operand→Value}{oi:Oper}{y z:Operand},jD w1 b t→oi.op=.store 34 y z→ev y=pointer (some ⟨b,0,none⟩)→ev z=tyV t'→(execOp ev oi).run Tryz.prog w1=.ok .skip ((w1.setCell ⟨b,0,none⟩ (int i64 t'.1)).setCell ⟨b,1,none⟩ (int i64 t'.2)):=fun {w1 b t t' ev oi y z} hty ho hy hz=>by
  have z0:=zi hty 0;have z1:=zi hty 1;have c0:=zd hty 0;have c1:=zd hty 1;simp[execOp,ho,hy,hz,go_sem,z0,z1,c0,c1]
 refine wp_region_held_drew (S:=fun w'=>zc [] WA w') (by kernel_rfl) HD0.o (fun _=> ?_);refine Zh (i:=0) (d:=16) (v:=pointer (some ⟨fb,fo,none⟩)) rfl rfl (by as_aux_lemma=>kernel_rfl) (by as_aux_lemma=>kernel_rfl) (by as_aux_lemma=>kernel_rfl) (fun _ _ _ h=>hP _ _ _ _ _ h) (by rfl) HD0.o (fun _ _=>rfl) ?_;simp only[Act.put,sTA,sC0,sCS];refine Zh (i:=1) (d:=17) (v:=pointer (some ⟨q,1,none⟩)) rfl rfl (by as_aux_lemma=>kernel_rfl) (by as_aux_lemma=>kernel_rfl) (by as_aux_lemma=>kernel_rfl) (fun _ _ _ h=>hP _ _ _ _ _ h) (by rfl) HD0.o (fun _ _=>rfl) ?_;simp only[Act.put,sTA,sC0,sCS];refine Zh (i:=2) (d:=18) (v:=int i64 x.dst) rfl rfl (by as_aux_lemma=>kernel_rfl) (by as_aux_lemma=>kernel_rfl) (by as_aux_lemma=>kernel_rfl) (fun _ _ _ h=>hP _ _ _ _ _ h) (by rfl) HD0.o (fun w' k=>ld (IN.o w' k).1 rfl rfl) ?_;simp only[Act.put,sTA,sC0,sCS];refine Zh (i:=4) (d:=20) (v:=pointer (some ⟨fb,fo,none⟩)) rfl rfl (by as_aux_lemma=>kernel_rfl) (by as_aux_lemma=>kernel_rfl) (by as_aux_lemma=>kernel_rfl) (fun _ _ _ h=>hP _ _ _ _ _ h) (by rfl) HD0.o (fun _ _=>rfl) ?_;simp only[Act.put,sTA,sC0,sCS];refine Zh (i:=5) (d:=21) (v:=pointer (some ⟨q,2,none⟩)) rfl rfl (by as_aux_lemma=>kernel_rfl) (by as_aux_lemma=>kernel_rfl) (by as_aux_lemma=>kernel_rfl) (fun _ _ _ h=>hP _ _ _ _ _ h) (by rfl) HD0.o (fun _ _=>rfl) ?_;simp only[Act.put,sTA,sC0,sCS];refine Zh (i:=6) (d:=22) (v:=int i64 x.a) rfl rfl (by as_aux_lemma=>kernel_rfl) (by as_aux_lemma=>kernel_rfl) (by as_aux_lemma=>kernel_rfl) (fun _ _ _ h=>hP _ _ _ _ _ h) (by rfl) HD0.o (fun w' k=>ld (IN.o w' k).2.1 rfl rfl) ?_;simp only[Act.put,sTA,sC0,sCS];refine Zh (i:=8) (d:=24) (v:=pointer (some ⟨fb,fo,none⟩)) rfl rfl (by as_aux_lemma=>kernel_rfl) (by as_aux_lemma=>kernel_rfl) (by as_aux_lemma=>kernel_rfl) (fun _ _ _ h=>hP _ _ _ _ _ h) (by rfl) HD0.o (fun _ _=>rfl) ?_;simp only[Act.put,sTA,sC0,sCS];refine Zh (i:=9) (d:=25) (v:=pointer (some ⟨q,3,none⟩)) rfl rfl (by as_aux_lemma=>kernel_rfl) (by as_aux_lemma=>kernel_rfl) (by as_aux_lemma=>kernel_rfl) (fun _ _ _ h=>hP _ _ _ _ _ h) (by rfl) HD0.o (fun _ _=>rfl) ?_;simp only[Act.put,sTA,sC0,sCS];refine Zh (i:=10) (d:=26) (v:=int i64 x.b) rfl rfl (by as_aux_lemma=>kernel_rfl) (by as_aux_lemma=>kernel_rfl) (by as_aux_lemma=>kernel_rfl) (fun _ _ _ h=>hP _ _ _ _ _ h) (by rfl) HD0.o (fun w' k=>ld (IN.o w' k).2.2 rfl rfl) ?_;simp only[Act.put,sTA,sC0,sCS];refine Zs (zoT WA (fun v7 v8 v9 v19 v23 v27=>({ tmps:=List.toArray ((pointer (some ⟨pb,po,none⟩):Value) :: (pointer (some ⟨fb,fo,none⟩):Value) :: (agg #[int i64 o,int i64 x.dst,int i64 x.a,int i64 x.b,int i64 x.n,ar]:Value) :: (undef:Value) :: (undef:Value) :: (pointer (some ⟨q,0,none⟩):Value) :: (.bool false:Value) :: (v7:Value) :: (v8:Value) :: (v9:Value) :: (undef:Value) :: (undef:Value) :: (undef:Value) :: (undef:Value) :: (undef:Value) :: (undef:Value) :: (pointer (some ⟨fb,fo,none⟩):Value) :: (pointer (some ⟨q,1,none⟩):Value) :: (int i64 x.dst:Value) :: (v19:Value) :: (pointer (some ⟨fb,fo,none⟩):Value) :: (pointer (some ⟨q,2,none⟩):Value) :: (int i64 x.a:Value) :: (v23:Value) :: (pointer (some ⟨fb,fo,none⟩):Value) :: (pointer (some ⟨q,3,none⟩):Value) :: (int i64 x.b:Value) :: (v27:Value) :: (undef:Value) :: (undef:Value) :: (undef:Value) :: (undef:Value) :: (undef:Value) :: (undef:Value) :: (undef:Value) :: (undef:Value) :: (undef:Value) :: (undef:Value) :: (undef:Value) :: (undef:Value) :: (undef:Value) :: (undef:Value) :: (undef:Value) :: (undef:Value) :: (undef:Value) :: (undef:Value) :: (undef:Value) :: (undef:Value) :: (undef:Value) :: (undef:Value) :: (undef:Value) :: (undef:Value) :: (undef:Value) :: (undef:Value) :: (undef:Value) :: (undef:Value) :: (undef:Value) :: (undef:Value) :: (undef:Value) :: (undef:Value) :: (undef:Value) :: (undef:Value) :: (undef:Value) :: (undef:Value) :: (undef:Value) :: (undef:Value) :: (undef:Value) :: (undef:Value) :: (undef:Value) :: (undef:Value) :: (undef:Value) :: (undef:Value) :: (undef:Value) :: (undef:Value) :: (undef:Value) :: (undef:Value) :: (undef:Value) :: (undef:Value) :: (undef:Value) :: (undef:Value) :: (undef:Value) :: (undef:Value) :: (undef:Value) :: (undef:Value) :: (undef:Value) :: (undef:Value) :: (undef:Value) :: (undef:Value) :: (undef:Value) :: (undef:Value) :: (undef:Value) :: (undef:Value) :: (undef:Value) :: (undef:Value) :: (undef:Value) :: (undef:Value) :: (undef:Value) :: (undef:Value) :: (undef:Value) :: (undef:Value) :: (undef:Value) :: (undef:Value) :: (undef:Value) :: (undef:Value) :: (undef:Value) :: (undef:Value) :: (undef:Value) :: (undef:Value) :: (undef:Value) :: (undef:Value) :: (undef:Value) :: (undef:Value) :: (undef:Value) :: (undef:Value) :: (undef:Value) :: (undef:Value) :: (undef:Value) :: (undef:Value) :: (undef:Value) :: (undef:Value) :: (undef:Value) :: (undef:Value) :: (undef:Value) :: (undef:Value) :: (undef:Value) :: (undef:Value) :: (undef:Value) :: (undef:Value) :: (undef:Value) :: (undef:Value) :: (undef:Value) :: (undef:Value) :: (undef:Value) :: (undef:Value) :: (undef:Value) :: (undef:Value) :: (undef:Value) :: (undef:Value) :: (undef:Value) :: (undef:Value) :: (undef:Value) :: (undef:Value) :: (undef:Value) :: (undef:Value) :: (undef:Value) :: (undef:Value) :: (undef:Value) :: (undef:Value) :: (undef:Value) :: (undef:Value) :: (undef:Value) :: (undef:Value) :: (undef:Value) :: (undef:Value) :: (undef:Value) :: (undef:Value) :: (undef:Value) :: (undef:Value) :: (undef:Value) :: (undef:Value) :: (undef:Value) :: (undef:Value) :: (undef:Value) :: (undef:Value) :: (undef:Value) :: (undef:Value) :: (undef:Value) :: (undef:Value) :: (undef:Value) :: (undef:Value) :: (undef:Value) :: []),defers:=[] }:Act)) T1 T2 T3) (fun _ _ _ h=>h.kept) ?hd ?hstep _ _ _ _ ?start ?fin
 case fin=>exact Nat.le_of_ble_eq_true (by kernel_rfl)
 case start=>
  exact ⟨rfl,HD0.o,⟨undef,undef,undef,undef,undef,undef,0,0,0,rfl,(fun h=>by cases h),(fun h=>by cases h),(fun h=>by cases h),(fun h=>by cases h),(fun h=>by cases h),(fun h=>by cases h),(fun h=>by cases h),(fun h=>by cases h),fun h=>by cases h⟩,by decide,(fun h=>by cases h),(fun h=>by cases h),fun h=>by cases h⟩
 case hstep=>
  rintro l a w1 i ⟨hsz,hk,⟨v7,v8,v9,v19,v23,v27,b7,b8,b9,rfl,e3,e7,e11,m7,m8,m9,n78,n79,n89⟩,h9,o7,o8,o9⟩ hr;have hun:=(mem_ready.1 hr).1;have hf0:=zcT hun;have hlt:i<18:=zki hr;have hne:i ∉ [0,1,2,4,5,6,8,9,10]:=fun hm=>by rw[h9 i hm] at hun;cases hun
  have hi:i=3∨i=7∨i=11∨i=12∨i=13∨i=14∨i=15∨i=16∨i=17:=by
   simp only[List.mem_cons,List.not_mem_nil,or_false,not_or] at hne;omega
  rcases hi with rfl | rfl | rfl | rfl | rfl | rfl | rfl | rfl | rfl
  ·refine zel (d:=19) (R:=fun v w2=>v=tyV T1∧zc [] w1 w2) rfl rfl (by rfl) 151 #[pointer (some ⟨fb,fo,none⟩),int i64 x.dst] (zt rfl rfl rfl rfl (by go_simp)) ((H1.o w1 hk).mono fun e w2 h=>⟨_,h.1,rfl,h.2⟩) ?_
   rintro v w2 ⟨rfl,k2⟩;exact ⟨by simpa using hsz,hk.quiet k2,⟨v7,v8,v9,tyV T1,v23,v27,b7,b8,b9,rfl,(fun _=>rfl),(fun h=>e7 (by rw[zv false (by decide)] at h;exact h)),(fun h=>e11 (by rw[zv false (by decide)] at h;exact h)),m7.quiet k2 (by decide) (by decide),m8.quiet k2 (by decide) (by decide),m9.quiet k2 (by decide) (by decide),(fun h h'=>n78 (by rw[zv false (by decide)] at h;exact h) (by rw[zv false (by decide)] at h';exact h')),(fun h h'=>n79 (by rw[zv false (by decide)] at h;exact h) (by rw[zv false (by decide)] at h';exact h')),fun h h'=>n89 (by rw[zv false (by decide)] at h;exact h) (by rw[zv false (by decide)] at h';exact h')⟩,Zk _ h9,qg _ o7 (fun e=>by cases e),qg _ o8 (fun e=>by cases e),qg _ o9 (fun e=>by cases e)⟩
  ·refine zel (d:=23) (R:=fun v w2=>v=tyV T2∧zc [] w1 w2) rfl rfl (by rfl) 151 #[pointer (some ⟨fb,fo,none⟩),int i64 x.a] (zt rfl rfl rfl rfl (by go_simp)) ((H2.o w1 hk).mono fun e w2 h=>⟨_,h.1,rfl,h.2⟩) ?_
   rintro v w2 ⟨rfl,k2⟩;exact ⟨by simpa using hsz,hk.quiet k2,⟨v7,v8,v9,v19,tyV T2,v27,b7,b8,b9,rfl,(fun h=>e3 (by rw[zv false (by decide)] at h;exact h)),(fun _=>rfl),(fun h=>e11 (by rw[zv false (by decide)] at h;exact h)),m7.quiet k2 (by decide) (by decide),m8.quiet k2 (by decide) (by decide),m9.quiet k2 (by decide) (by decide),(fun h h'=>n78 (by rw[zv false (by decide)] at h;exact h) (by rw[zv false (by decide)] at h';exact h')),(fun h h'=>n79 (by rw[zv false (by decide)] at h;exact h) (by rw[zv false (by decide)] at h';exact h')),fun h h'=>n89 (by rw[zv false (by decide)] at h;exact h) (by rw[zv false (by decide)] at h';exact h')⟩,Zk _ h9,qg _ o7 (fun e=>by cases e),qg _ o8 (fun e=>by cases e),qg _ o9 (fun e=>by cases e)⟩
  ·refine zel (d:=27) (R:=fun v w2=>v=tyV T3∧zc [] w1 w2) rfl rfl (by rfl) 151 #[pointer (some ⟨fb,fo,none⟩),int i64 x.b] (zt rfl rfl rfl rfl (by go_simp)) ((H3.o w1 hk).mono fun e w2 h=>⟨_,h.1,rfl,h.2⟩) ?_
   rintro v w2 ⟨rfl,k2⟩;exact ⟨by simpa using hsz,hk.quiet k2,⟨v7,v8,v9,v19,v23,tyV T3,b7,b8,b9,rfl,(fun h=>e3 (by rw[zv false (by decide)] at h;exact h)),(fun h=>e7 (by rw[zv false (by decide)] at h;exact h)),(fun _=>rfl),m7.quiet k2 (by decide) (by decide),m8.quiet k2 (by decide) (by decide),m9.quiet k2 (by decide) (by decide),(fun h h'=>n78 (by rw[zv false (by decide)] at h;exact h) (by rw[zv false (by decide)] at h';exact h')),(fun h h'=>n79 (by rw[zv false (by decide)] at h;exact h) (by rw[zv false (by decide)] at h';exact h')),fun h h'=>n89 (by rw[zv false (by decide)] at h;exact h) (by rw[zv false (by decide)] at h';exact h')⟩,Zk _ h9,qg _ o7 (fun e=>by cases e),qg _ o8 (fun e=>by cases e),qg _ o9 (fun e=>by cases e)⟩
  ·have hs0:l.getD 15 false=false:=by
    cases hb:l.getD 15 false with
    | false=>rfl
    | true=>exact absurd (o7 hb) (by rw[hf0];simp)
   refine zha (v:=pointer (some ⟨w1.heap.size,0,none⟩)) (w':=w1.alloc (.cells #[int i64 0,int i64 0] 34)) rfl (by rfl) (by kernel_rfl) ?_;exact ⟨by simpa using hsz,hk.quiet (zc.alloc [] _ _),⟨pointer (some ⟨w1.heap.size,0,none⟩),v8,v9,v19,v23,v27,w1.heap.size,b8,b9,rfl,(fun h=>e3 (by rw[zv false (by decide)] at h;exact h)),(fun h=>e7 (by rw[zv false (by decide)] at h;exact h)),(fun h=>e11 (by rw[zv false (by decide)] at h;exact h)),zc3.new hk hs0 (by decide),m8.quiet (zc.alloc [] _ _) (by decide) (by decide),m9.quiet (zc.alloc [] _ _) (by decide) (by decide),(fun h h' e=>by have:=m8.lt (by rw[zv false (by decide)] at h';exact h');omega),(fun h h' e=>by have:=m9.lt (by rw[zv false (by decide)] at h';exact h');omega),(fun h h'=>n89 (by rw[zv false (by decide)] at h;exact h) (by rw[zv false (by decide)] at h';exact h'))⟩,Zk _ h9,qg _ o7 (fun e=>by cases e),qg _ o8 (fun e=>by cases e),qg _ o9 (fun e=>by cases e)⟩
  ·have hs0:l.getD 16 false=false:=by
    cases hb:l.getD 16 false with
    | false=>rfl
    | true=>exact absurd (o8 hb) (by rw[hf0];simp)
   refine zha (v:=pointer (some ⟨w1.heap.size,0,none⟩)) (w':=w1.alloc (.cells #[int i64 0,int i64 0] 34)) rfl (by rfl) (by kernel_rfl) ?_;exact ⟨by simpa using hsz,hk.quiet (zc.alloc [] _ _),⟨v7,pointer (some ⟨w1.heap.size,0,none⟩),v9,v19,v23,v27,b7,w1.heap.size,b9,rfl,(fun h=>e3 (by rw[zv false (by decide)] at h;exact h)),(fun h=>e7 (by rw[zv false (by decide)] at h;exact h)),(fun h=>e11 (by rw[zv false (by decide)] at h;exact h)),m7.quiet (zc.alloc [] _ _) (by decide) (by decide),zc3.new hk hs0 (by decide),m9.quiet (zc.alloc [] _ _) (by decide) (by decide),(fun h h' e=>by have:=m7.lt (by rw[zv false (by decide)] at h;exact h);omega),(fun h h'=>n79 (by rw[zv false (by decide)] at h;exact h) (by rw[zv false (by decide)] at h';exact h')),(fun h h' e=>by have:=m9.lt (by rw[zv false (by decide)] at h';exact h');omega)⟩,Zk _ h9,qg _ o7 (fun e=>by cases e),qg _ o8 (fun e=>by cases e),qg _ o9 (fun e=>by cases e)⟩
  ·have hs0:l.getD 17 false=false:=by
    cases hb:l.getD 17 false with
    | false=>rfl
    | true=>exact absurd (o9 hb) (by rw[hf0];simp)
   refine zha (v:=pointer (some ⟨w1.heap.size,0,none⟩)) (w':=w1.alloc (.cells #[int i64 0,int i64 0] 34)) rfl (by rfl) (by kernel_rfl) ?_;exact ⟨by simpa using hsz,hk.quiet (zc.alloc [] _ _),⟨v7,v8,pointer (some ⟨w1.heap.size,0,none⟩),v19,v23,v27,b7,b8,w1.heap.size,rfl,(fun h=>e3 (by rw[zv false (by decide)] at h;exact h)),(fun h=>e7 (by rw[zv false (by decide)] at h;exact h)),(fun h=>e11 (by rw[zv false (by decide)] at h;exact h)),m7.quiet (zc.alloc [] _ _) (by decide) (by decide),m8.quiet (zc.alloc [] _ _) (by decide) (by decide),zc3.new hk hs0 (by decide),(fun h h'=>n78 (by rw[zv false (by decide)] at h;exact h) (by rw[zv false (by decide)] at h';exact h')),(fun h h' e=>by have:=m7.lt (by rw[zv false (by decide)] at h;exact h);omega),(fun h h' e=>by have:=m8.lt (by rw[zv false (by decide)] at h;exact h);omega)⟩,Zk _ h9,qg _ o7 (fun e=>by cases e),qg _ o8 (fun e=>by cases e),qg _ o9 (fun e=>by cases e)⟩
  ·have hm:=jT hr 12 (by kernel_rfl)
   have hc:=jT hr 3 (by kernel_rfl);obtain ⟨hv,hge,hty⟩:=m7 hm;have hT:=e3 hc;subst hv hT;have z0:=zi hty 0;have z1:=zi hty 1;have c0:=zd hty 0;have c1:=zd hty 1;refine zeb (w':=(w1.setCell ⟨b7,0,none⟩ (int i64 T1.1)).setCell ⟨b7,1,none⟩ (int i64 T1.2)) rfl (by rfl) (stv hty rfl rfl rfl) ?_;exact ⟨by simpa using hsz,hk.trans (zdM _ b7 _ _) (fun x hx hl=>by simp at hx;omega),⟨pointer (some ⟨b7,0,none⟩),v8,v9,tyV T1,v23,v27,b7,b8,b9,rfl,(fun _=>rfl),(fun h=>e7 (by rw[zv false (by decide)] at h;exact h)),(fun h=>e11 (by rw[zv false (by decide)] at h;exact h)),m7.put (by omega) (by decide),m8.far (fun h e=>n78 hm h e.symm) (by decide) (by decide),m9.far (fun h e=>n79 hm h e.symm) (by decide) (by decide),(fun h h'=>n78 (by rw[zv false (by decide)] at h;exact h) (by rw[zv false (by decide)] at h';exact h')),(fun h h'=>n79 (by rw[zv false (by decide)] at h;exact h) (by rw[zv false (by decide)] at h';exact h')),(fun h h'=>n89 (by rw[zv false (by decide)] at h;exact h) (by rw[zv false (by decide)] at h';exact h'))⟩,Zk _ h9,qg _ o7 (fun _=>hm),qg _ o8 (fun e=>by cases e),qg _ o9 (fun e=>by cases e)⟩
  ·have hm:=jT hr 13 (by kernel_rfl)
   have hc:=jT hr 7 (by kernel_rfl);obtain ⟨hv,hge,hty⟩:=m8 hm;have hT:=e7 hc;subst hv hT;have z0:=zi hty 0;have z1:=zi hty 1;have c0:=zd hty 0;have c1:=zd hty 1;refine zeb (w':=(w1.setCell ⟨b8,0,none⟩ (int i64 T2.1)).setCell ⟨b8,1,none⟩ (int i64 T2.2)) rfl (by rfl) (stv hty rfl rfl rfl) ?_;exact ⟨by simpa using hsz,hk.trans (zdM _ b8 _ _) (fun x hx hl=>by simp at hx;omega),⟨v7,pointer (some ⟨b8,0,none⟩),v9,v19,tyV T2,v27,b7,b8,b9,rfl,(fun h=>e3 (by rw[zv false (by decide)] at h;exact h)),(fun _=>rfl),(fun h=>e11 (by rw[zv false (by decide)] at h;exact h)),m7.far (fun h=>n78 h hm) (by decide) (by decide),m8.put (by omega) (by decide),m9.far (fun h e=>n89 hm h e.symm) (by decide) (by decide),(fun h h'=>n78 (by rw[zv false (by decide)] at h;exact h) (by rw[zv false (by decide)] at h';exact h')),(fun h h'=>n79 (by rw[zv false (by decide)] at h;exact h) (by rw[zv false (by decide)] at h';exact h')),(fun h h'=>n89 (by rw[zv false (by decide)] at h;exact h) (by rw[zv false (by decide)] at h';exact h'))⟩,Zk _ h9,qg _ o7 (fun e=>by cases e),qg _ o8 (fun _=>hm),qg _ o9 (fun e=>by cases e)⟩
  ·have hm:=jT hr 14 (by kernel_rfl)
   have hc:=jT hr 11 (by kernel_rfl);obtain ⟨hv,hge,hty⟩:=m9 hm;have hT:=e11 hc;subst hv hT;have z0:=zi hty 0;have z1:=zi hty 1;have c0:=zd hty 0;have c1:=zd hty 1;refine zeb (w':=(w1.setCell ⟨b9,0,none⟩ (int i64 T3.1)).setCell ⟨b9,1,none⟩ (int i64 T3.2)) rfl (by rfl) (stv hty rfl rfl rfl) ?_;exact ⟨by simpa using hsz,hk.trans (zdM _ b9 _ _) (fun x hx hl=>by simp at hx;omega),⟨v7,v8,pointer (some ⟨b9,0,none⟩),v19,v23,tyV T3,b7,b8,b9,rfl,(fun h=>e3 (by rw[zv false (by decide)] at h;exact h)),(fun h=>e7 (by rw[zv false (by decide)] at h;exact h)),(fun _=>rfl),m7.far (fun h=>n79 h hm) (by decide) (by decide),m8.far (fun h=>n89 h hm) (by decide) (by decide),m9.put (by omega) (by decide),(fun h h'=>n78 (by rw[zv false (by decide)] at h;exact h) (by rw[zv false (by decide)] at h';exact h')),(fun h h'=>n79 (by rw[zv false (by decide)] at h;exact h) (by rw[zv false (by decide)] at h';exact h')),(fun h h'=>n89 (by rw[zv false (by decide)] at h;exact h) (by rw[zv false (by decide)] at h';exact h'))⟩,Zk _ h9,qg _ o7 (fun e=>by cases e),qg _ o8 (fun e=>by cases e),qg _ o9 (fun _=>hm)⟩
 case hd=>
  rintro l a w1 ⟨hsz,hk,⟨v7,v8,v9,v19,v23,v27,b7,b8,b9,rfl,e3,e7,e11,m7,m8,m9, -, -, -⟩, -, -, -, -⟩ hr;have hall:=Qb hsz hr (by kernel_rfl);obtain ⟨hv7, -,t7⟩:=m7 (hall 12 (by decide));obtain ⟨hv8, -,t8⟩:=m8 (hall 13 (by decide));obtain ⟨hv9, -,t9⟩:=m9 (hall 14 (by decide));rw[hall 15 (by decide)] at t7;rw[hall 16 (by decide)] at t8;rw[hall 17 (by decide)] at t9;have hv19:=e3 (hall 3 (by decide));have hv23:=e7 (hall 7 (by decide));have hv27:=e11 (hall 11 (by decide));subst hv7 hv8 hv9 hv19 hv23 hv27;exact hQ w1 b7 b8 b9 hk t7 t8 t9
theorem zol(sg:Int)(ra:Option Addr)(R rp:Nat)(ba:Option Addr)(B bp:Nat)(cv:Value)(reg tt els:Int)(w:World):Calls Tryz.prog 70 #[agg #[int i64 sg,.slice ra R rp,.slice ba B bp],agg #[cv,int i64 1,int i64 reg,int i64 tt,int i64 els]] w fun e w'=>e=.returned (.bool (jh R B 1 reg tt els))∧zc [] w w':=by
 obtain ⟨W,hW⟩:∃ W,W=(w.alloc (.cells #[int i64 sg,.slice ra R rp,.slice ba B bp] 45)).alloc (.cells #[cv,int i64 1,int i64 reg,int i64 tt,int i64 els] 42):=⟨_,rfl⟩;have k2:zc [] w W:=by rw[hW];exact (zc.alloc [] w _).quiet (zc.alloc [] _ _)
 have hn1:W.heap[w.heap.size]? = some (.cells #[int i64 sg,.slice ra R rp,.slice ba B bp] 45 (0,0)):=by rw[hW];exact ze (zf w _) (zc.alloc [] _ _)
 have hn2:W.heap[w.heap.size+1]? = some (.cells #[cv,int i64 1,int i64 reg,int i64 tt,int i64 els] 42 (0,0)):=by
  have:=zf (w.alloc (.cells #[int i64 sg,.slice ra R rp,.slice ba B bp] 45)) (.cells #[cv,int i64 1,int i64 reg,int i64 tt,int i64 els] 42);rw[World.size_alloc] at this;rw[hW];exact this
 have HN1:=hid hn1;have HN2:=hid hn2;have HIN:=hid fun (k:Int) (n:Nat) (w:World)=>jH k n w;have HQ:=hid (jH reg R);have HWE:=hid hW;have HK:=hid k2;clear k2 hn1 hn2 hW;have HE:Box (jh R B 1 reg tt els=(decide (reg=0) && (inB tt B && decide (els=0)))):=hid rfl;generalize jh R B 1 reg tt els=res at *;go_enter Tryz.func70,Tryz.ntmps70;go_upto_region 1 with fail;rw[← HWE.o];clear HWE;generalize w.heap.size=q at *;have f1:=zd HN1.o 1;have f2:=zd HN1.o 2;have b2:=zd HN2.o 2;generalize inB reg R=rb at *;go_quiet ((go_at_call 68;exact Calls.quiet_of_same (HQ.o _)));have KD:Box (zc [] W (W.drewN nq)):=hid (zc.drewN _ _ _);generalize W.drewN nq=W3 at *;have j2:=ze HN2.o KD.o;have KZ:=hid (HK.o.quiet KD.o);clear f1 f2 b2;have b1:=zd j2 1;have b2:=zd j2 2;have b3:=zd j2 3;have b4:=zd j2 4;clear j2;by_cases h0:reg=0
 case neg=>
  have q0:=neb h0;have HF:Box (res=false):=hid (by rw[HE.o];simp[h0]);clear h0 HE;go_wp2_with fail;go_ret;exact ⟨by rw[HF.o];rfl,KZ.o⟩
 have q0:=eqb h0;by_cases h4:els=0
 case neg=>
  have q4:=neb h4;have HF:Box (res=false):=hid (by rw[HE.o];simp[h4]);clear h0 h4 HE;go_wp2_with fail;go_ret;exact ⟨by rw[HF.o];rfl,KZ.o⟩
 have q4:=eqb h4;have HF:Box (res=inB tt B):=hid (by rw[HE.o];simp[h0,h4]);clear h0 h4 HE;go_wp2_with fail;refine (HIN.o _ _ _).mono ?_;rintro e w5 ⟨rfl,hw5⟩;rw[hw5];clear hw5;go_wp2_with fail;go_ret;exact ⟨by rw[HF.o];rfl,KZ.o⟩
theorem znZ(sg:Int)(ra:Option Addr)(R rp:Nat)(ba:Option Addr)(B bp:Nat)(cv:Value)(reg tt els:Int)(w:World):Calls Tryz.prog 70 #[agg #[int i64 sg,.slice ra R rp,.slice ba B bp],agg #[cv,int i64 2,int i64 reg,int i64 tt,int i64 els]] w fun e w'=>e=.returned (.bool (jh R B 2 reg tt els))∧zc [] w w':=by
 obtain ⟨W,hW⟩:∃ W,W=(w.alloc (.cells #[int i64 sg,.slice ra R rp,.slice ba B bp] 45)).alloc (.cells #[cv,int i64 2,int i64 reg,int i64 tt,int i64 els] 42):=⟨_,rfl⟩;have k2:zc [] w W:=by rw[hW];exact (zc.alloc [] w _).quiet (zc.alloc [] _ _)
 have hn1:W.heap[w.heap.size]? = some (.cells #[int i64 sg,.slice ra R rp,.slice ba B bp] 45 (0,0)):=by rw[hW];exact ze (zf w _) (zc.alloc [] _ _)
 have hn2:W.heap[w.heap.size+1]? = some (.cells #[cv,int i64 2,int i64 reg,int i64 tt,int i64 els] 42 (0,0)):=by
  have:=zf (w.alloc (.cells #[int i64 sg,.slice ra R rp,.slice ba B bp] 45)) (.cells #[cv,int i64 2,int i64 reg,int i64 tt,int i64 els] 42);rw[World.size_alloc] at this;rw[hW];exact this
 have HN1:=hid hn1;have HN2:=hid hn2;have HIN:=hid fun (k:Int) (n:Nat) (w:World)=>jH k n w;have HQ:=hid (jH reg R);have HWE:=hid hW;have HK:=hid k2;clear k2 hn1 hn2 hW;have HE:Box (jh R B 2 reg tt els=(inB reg R && (inB tt B && inB els B))):=hid rfl;generalize jh R B 2 reg tt els=res at *;go_enter Tryz.func70,Tryz.ntmps70;go_upto_region 1 with fail;rw[← HWE.o];clear HWE;generalize w.heap.size=q at *;have f1:=zd HN1.o 1;have f2:=zd HN1.o 2;have b2:=zd HN2.o 2;generalize inB reg R=rb at *;go_quiet ((go_at_call 68;exact Calls.quiet_of_same (HQ.o _)));have KD:Box (zc [] W (W.drewN nq)):=hid (zc.drewN _ _ _);generalize W.drewN nq=W3 at *;have j2:=ze HN2.o KD.o;have KZ:=hid (HK.o.quiet KD.o);clear f1 f2 b2;have b1:=zd j2 1;have b2:=zd j2 2;have b3:=zd j2 3;have b4:=zd j2 4;clear j2;cases rb with
 | false=>
  have HF:Box (res=false):=hid (by rw[HE.o];rfl);clear HE;go_wp2_with fail;go_ret;exact ⟨by rw[HF.o];rfl,KZ.o⟩
 | true=>
  go_wp2_with fail;refine (HIN.o _ _ _).mono ?_;rintro e w5 ⟨rfl,hw5⟩;rw[hw5];clear hw5;have HE2:Box (res=(inB tt B && inB els B)):=hid (by rw[HE.o,Bool.true_and]);clear HE;generalize inB tt B=tb at *;cases tb with
  | false=>
   have HF:Box (res=false):=hid (by rw[HE2.o];rfl);go_wp2_with fail;go_ret;exact ⟨by rw[HF.o];rfl,KZ.o⟩
  | true=>
   have HF:Box (res=inB els B):=hid (by rw[HE2.o];rfl);go_wp2_with fail;refine (HIN.o _ _ _).mono ?_;rintro e w5 ⟨rfl,hw5⟩;rw[hw5];clear hw5;go_wp2_with fail;go_ret;exact ⟨by rw[HF.o];rfl,KZ.o⟩
theorem zov(sg:Int)(ra:Option Addr)(R rp:Nat)(ba:Option Addr)(B bp:Nat)(cv:Value)(reg tt els:Int)(w:World):Calls Tryz.prog 70 #[agg #[int i64 sg,.slice ra R rp,.slice ba B bp],agg #[cv,int i64 3,int i64 reg,int i64 tt,int i64 els]] w fun e w'=>e=.returned (.bool (jh R B 3 reg tt els))∧zc [] w w':=by
 obtain ⟨W,hW⟩:∃ W,W=(w.alloc (.cells #[int i64 sg,.slice ra R rp,.slice ba B bp] 45)).alloc (.cells #[cv,int i64 3,int i64 reg,int i64 tt,int i64 els] 42):=⟨_,rfl⟩;have k2:zc [] w W:=by rw[hW];exact (zc.alloc [] w _).quiet (zc.alloc [] _ _)
 have hn1:W.heap[w.heap.size]? = some (.cells #[int i64 sg,.slice ra R rp,.slice ba B bp] 45 (0,0)):=by rw[hW];exact ze (zf w _) (zc.alloc [] _ _)
 have hn2:W.heap[w.heap.size+1]? = some (.cells #[cv,int i64 3,int i64 reg,int i64 tt,int i64 els] 42 (0,0)):=by
  have:=zf (w.alloc (.cells #[int i64 sg,.slice ra R rp,.slice ba B bp] 45)) (.cells #[cv,int i64 3,int i64 reg,int i64 tt,int i64 els] 42);rw[World.size_alloc] at this;rw[hW];exact this
 have HN1:=hid hn1;have HN2:=hid hn2;have HIN:=hid fun (k:Int) (n:Nat) (w:World)=>jH k n w;have HQ:=hid (jH reg R);have HWE:=hid hW;have HK:=hid k2;clear k2 hn1 hn2 hW;have HE:Box (jh R B 3 reg tt els=(inB reg R && (decide (tt=0) && decide (els=0)))):=hid rfl;generalize jh R B 3 reg tt els=res at *;go_enter Tryz.func70,Tryz.ntmps70;go_upto_region 1 with fail;rw[← HWE.o];clear HWE;generalize w.heap.size=q at *;have f1:=zd HN1.o 1;have f2:=zd HN1.o 2;have b2:=zd HN2.o 2;generalize inB reg R=rb at *;go_quiet ((go_at_call 68;exact Calls.quiet_of_same (HQ.o _)));have KD:Box (zc [] W (W.drewN nq)):=hid (zc.drewN _ _ _);generalize W.drewN nq=W3 at *;have j2:=ze HN2.o KD.o;have KZ:=hid (HK.o.quiet KD.o);clear f1 f2 b2;have b1:=zd j2 1;have b2:=zd j2 2;have b3:=zd j2 3;have b4:=zd j2 4;clear j2;cases rb with
 | false=>
  have HF:Box (res=false):=hid (by rw[HE.o];rfl);clear HE;go_wp2_with fail;go_ret;exact ⟨by rw[HF.o];rfl,KZ.o⟩
 | true=>
  by_cases h3:tt=0
  case neg=>
   have q3:=neb h3;have HF:Box (res=false):=hid (by rw[HE.o];simp[h3]);clear h3 HE;go_wp2_with fail;go_ret;exact ⟨by rw[HF.o];rfl,KZ.o⟩
  have q3:=eqb h3
  have HF:Box (res=(els == 0)):=hid (by
   rw[HE.o,h3]
   by_cases e:els=0 <;> simp[e])
  clear h3 HE;go_wp2_with fail;go_ret;exact ⟨by rw[HF.o];rfl,KZ.o⟩
theorem zns(sg:Int)(ra:Option Addr)(R rp:Nat)(ba:Option Addr)(B bp:Nat)(cv:Value)(reg tt els:Int)(w:World)(fin:Int)(h1:fin≠1)(h2:fin≠2)(h3:fin≠3):Calls Tryz.prog 70 #[agg #[int i64 sg,.slice ra R rp,.slice ba B bp],agg #[cv,int i64 fin,int i64 reg,int i64 tt,int i64 els]] w fun e w'=>e=.returned (.bool (jh R B fin reg tt els))∧zc [] w w':=by
 obtain ⟨W,hW⟩:∃ W,W=(w.alloc (.cells #[int i64 sg,.slice ra R rp,.slice ba B bp] 45)).alloc (.cells #[cv,int i64 fin,int i64 reg,int i64 tt,int i64 els] 42):=⟨_,rfl⟩;have k2:zc [] w W:=by rw[hW];exact (zc.alloc [] w _).quiet (zc.alloc [] _ _)
 have hn1:W.heap[w.heap.size]? = some (.cells #[int i64 sg,.slice ra R rp,.slice ba B bp] 45 (0,0)):=by rw[hW];exact ze (zf w _) (zc.alloc [] _ _)
 have hn2:W.heap[w.heap.size+1]? = some (.cells #[cv,int i64 fin,int i64 reg,int i64 tt,int i64 els] 42 (0,0)):=by
  have:=zf (w.alloc (.cells #[int i64 sg,.slice ra R rp,.slice ba B bp] 45)) (.cells #[cv,int i64 fin,int i64 reg,int i64 tt,int i64 els] 42);rw[World.size_alloc] at this;rw[hW];exact this
 have HN1:=hid hn1;have HN2:=hid hn2;have HIN:=hid fun (k:Int) (n:Nat) (w:World)=>jH k n w;have HQ:=hid (jH reg R);have HWE:=hid hW;have HK:=hid k2;clear k2 hn1 hn2 hW;have HE:Box (jh R B fin reg tt els=false):=hid (by unfold jh;rw[if_neg h1,if_neg h2,if_neg h3]);have o1:=neb h1;have o2:=neb h2;have o3:=neb h3;clear h1 h2 h3;generalize jh R B fin reg tt els=res at *;go_enter Tryz.func70,Tryz.ntmps70;go_upto_region 1 with fail;rw[← HWE.o];clear HWE;generalize w.heap.size=q at *;have f1:=zd HN1.o 1;have f2:=zd HN1.o 2;have b2:=zd HN2.o 2;generalize inB reg R=rb at *;go_quiet ((go_at_call 68;exact Calls.quiet_of_same (HQ.o _)));have KD:Box (zc [] W (W.drewN nq)):=hid (zc.drewN _ _ _);generalize W.drewN nq=W3 at *;have j2:=ze HN2.o KD.o;have KZ:=hid (HK.o.quiet KD.o);clear f1 f2 b2;have b1:=zd j2 1;have b2:=zd j2 2;have b3:=zd j2 3;have b4:=zd j2 4;clear j2;go_wp2_with fail;go_ret;exact ⟨by rw[HE.o];rfl,KZ.o⟩
theorem zkx(sg:Int)(ra:Option Addr)(R rp:Nat)(ba:Option Addr)(B bp:Nat)(cv:Value)(fin reg tt els:Int)(w:World):Calls Tryz.prog 70 #[agg #[int i64 sg,.slice ra R rp,.slice ba B bp],agg #[cv,int i64 fin,int i64 reg,int i64 tt,int i64 els]] w fun e w'=>e=.returned (.bool (jh R B fin reg tt els))∧zc [] w w':=by
 by_cases h1:fin=1
 ·subst h1;exact zol sg ra R rp ba B bp cv reg tt els w
 by_cases h2:fin=2
 ·subst h2;exact znZ sg ra R rp ba B bp cv reg tt els w
 by_cases h3:fin=3
 ·subst h3;exact zov sg ra R rp ba B bp cv reg tt els w
 exact zns sg ra R rp ba B bp cv reg tt els w fin h1 h2 h3
section
variable {P:Program}{ops:Array Oper}{Q:Exit→Act→World→Prop}{S:World→Prop}{E:Array Bool→World→Prop}
def ze3 (P : Program) (ops : Array Oper) (A : Act) (S : World → Prop) (E : Array Bool → World → Prop) (i : Nat) (o : Oper) (v : Value) : Prop :=
  (Region.wanted o (yielded ops A.tmps) = true ∧ ∀ l w, i < l.size → S w → E l w →
    ((∃ w', (execOp A.eval o).run P w = .ok (.value v) w' ∧ S w' ∧ E (l.setIfInBounds i true) w') ∨
     (∃ w', (execOp A.eval o).run P w = .ok .skip w' ∧ v = undef ∧ S w' ∧ E (l.setIfInBounds i true) w') ∨
     (∃ f args, (execOp A.eval o).run P w = .ok (.enter f args) w ∧ Calls P f args w fun e w' => e = .returned v ∧ S w' ∧ E (l.setIfInBounds i true) w'))) ∨
  (Region.wanted o (yielded ops A.tmps) = false ∧ v = undef ∧ ∀ l w, S w → E l w → E (l.setIfInBounds i true) w)
theorem zaX{A:Act}{i:Nat}{o:Oper}{v:Value}(hw:Region.wanted o (yielded ops A.tmps)=true)(hE:∀ l w,E l w→E (l.setIfInBounds i true) w)(h:∀ w,S w→(execOp A.eval o).run P w=.ok (.value v) w):ze3 P ops A S E i o v:=
 .inl ⟨hw,fun l w _ hs he=>.inl ⟨w,h w hs,hs,hE l w he⟩⟩
theorem QN{A:Act}{i:Nat}{o:Oper}(hw:Region.wanted o (yielded ops A.tmps)=false)(hE:∀ l w,E l w→E (l.setIfInBounds i true) w):ze3 P ops A S E i o undef:=.inr ⟨hw,rfl,fun l w _ he=>hE l w he⟩
theorem QU{A:Act}{i:Nat}{o:Oper}(hw:Region.wanted o (yielded ops A.tmps)=true)(h:∀ l w,i<l.size→S w→E l w→∃ w',(execOp A.eval o).run P w=.ok .skip w'∧S w'∧E (l.setIfInBounds i true) w'):ze3 P ops A S E i o undef:=
 .inl ⟨hw,fun l w hi hs he=>by
  obtain ⟨w',h1,h2,h3⟩:=h l w hi hs he
  exact .inr (.inl ⟨w',h1,rfl,h2,h3⟩)⟩
theorem QZ{A:Act}{i:Nat}{o:Oper}{v:Value}(hw:Region.wanted o (yielded ops A.tmps)=true)(f:Nat)(args:Array Value)(he:∀ w,(execOp A.eval o).run P w=.ok (.enter f args) w)
  (hc:∀ l w,i<l.size→S w→E l w→Calls P f args w fun e w'=>e=.returned v∧S w'∧E (l.setIfInBounds i true) w'):ze3 P ops A S E i o v:=
 .inl ⟨hw,fun l w hi hs hE=>.inr (.inr ⟨f,args,he w,hc l w hi hs hE⟩)⟩
def zJ(P:Program)(ops:Array Oper)(A:Act)(S:World→Prop)(E:Array Bool→World→Prop):Nat→List Oper→List Value→Prop
 | i,o :: os,v :: vs=>ze3 P ops A S E i o v∧zJ P ops A S E (i+1) os vs
 | _,[],[]=>True
 | _,_,_=>False
theorem zJ.cons{A:Act}{i:Nat}{o:Oper}{v:Value}{os:List Oper}{vs:List Value}(h:ze3 P ops A S E i o v)(t:zJ P ops A S E (i+1) os vs):zJ P ops A S E i (o :: os) (v :: vs):=⟨h,t⟩
theorem gER{A:Act}{i:Nat}{o:Oper}{v:Value}{os:List Oper}{vs:List Value}(t:zJ P ops A S E (i+1) os vs)(hE:∀ l w,E l w→E (l.setIfInBounds i true) w:=by exact fun _ _ h=>h.keep (by decide))(h:∀ w,S w→(execOp A.eval o).run P w=.ok (.value v) w:=by exact fun _ _=>rfl)(hw:Region.wanted o (yielded ops A.tmps)=true:=by rfl):zJ P ops A S E i (o :: os) (v :: vs):=⟨zaX hw hE h,t⟩
theorem gEY{A:Act}{i:Nat}{o:Oper}{v:Value}{os:List Oper}{vs:List Value}(h:∀ w,S w→(execOp A.eval o).run P w=.ok (.value v) w)(t:zJ P ops A S E (i+1) os vs)(hE:∀ l w,E l w→E (l.setIfInBounds i true) w:=by exact fun _ _ h=>h.keep (by decide))(hw:Region.wanted o (yielded ops A.tmps)=true:=by rfl):zJ P ops A S E i (o :: os) (v :: vs):=⟨zaX hw hE h,t⟩
theorem zJ.nil{A:Act}{i:Nat}:zJ P ops A S E i [] []:=trivial
theorem zJ.at{A:Act}:∀ {os:List Oper}{vs:List Value}{i:Nat},zJ P ops A S E i os vs→∀ {k:Nat}{o:Oper},os[k]? = some o→∃ v,vs[k]? = some v∧ze3 P ops A S E (i+k) o v
 | [],_,_,_,k,o,ho=>by simp at ho
 | _ :: _,[],_,h,_,_,_=>by cases h
 | o :: os,v :: vs,i,h,0,o',ho=>by
  simp at ho;subst ho;exact ⟨v,rfl,h.1⟩
 | o :: os,v :: vs,i,h,k+1,o',ho=>by
  obtain ⟨u,hu,hg⟩:=zJ.at h.2 (k:=k) (by simpa using ho);exact ⟨u,by simpa using hu,by rw[show i+(k+1)=i+1+k by omega];exact hg⟩
structure zpN (ops:Array Oper) (S:World→Prop) (E:Array Bool→World→Prop) (a A:Act) (l:Array Bool) (a':Act) (w:World):Prop where
 size:l.size=ops.size
 kept:S w
 told:E l w
 sz:a'.tmps.size=a.tmps.size
 df:a'.defers=a.defers
 on:∀ (i:Nat) (oi:Oper) (d:Nat),ops[i]? = some oi→oi.dst=some d→l.getD i false=true→a'.tmps[d]? = A.tmps[d]?
 off:∀ d:Nat,(∀ (i:Nat) (oi:Oper),ops[i]? = some oi→oi.dst=some d→l.getD i false=false)→a'.tmps[d]? = a.tmps[d]?
theorem jW{id:Nat}{a:Act}{w:World}(S:World→Prop)(E:Array Bool→World→Prop)(n:Nat)(vs:List Value)(hm:P.follows .mixedOrders=true)(hn:a.tmps.size=n)(hok:zdB ops n=true)(hk:S w.drew)(he:E (Array.replicate ops.size false) w.drew)
  (h:∀ A,zu ops.toList vs a=A→zJ P ops A S E 0 ops.toList vs∧∀ l w',(∀ i,i<ops.size→l.getD i false=true)→S w'→E l w'→Q .normal A w'):(Code.region id ops true).wp P Q a w:=by
 obtain ⟨A,hA⟩:∃ A,zu ops.toList vs a=A:=⟨_,rfl⟩;obtain ⟨hg,hQ⟩:=h A hA;unfold zdB at hok;rw[Bool.and_eq_true,Bool.and_eq_true] at hok;obtain ⟨hsel,hp,hall⟩:=hok;have pair:∀ (i j:Nat) (oi oj:Oper),ops[i]? = some oi→ops[j]? = some oj→jb ops n i j=true:=fun i j oi oj hi hj=>by
  have h1:=List.all_eq_true.1 hp i (List.mem_range.2 (Array.getElem?_eq_some_iff.1 hi).1);exact List.all_eq_true.1 h1 j (List.mem_range.2 (Array.getElem?_eq_some_iff.1 hj).1)
 have dist:∀ (i j:Nat) (oi oj:Oper) (d:Nat),ops[i]? = some oi→ops[j]? = some oj→i≠j→oi.dst=some d→oj.dst≠some d:=fun i j oi oj d hi hj hij hd he=>by
  have:=pair i j oi oj hi hj;unfold jb at this;rw[hi,hj] at this;simp[hij,hd,he] at this
 have lt:∀ (i:Nat) (oi:Oper) (d:Nat),ops[i]? = some oi→oi.dst=some d→d<n:=fun i oi d hi hd=>by
  have:=pair i i oi oi hi hi;unfold jb at this;rw[hi] at this;simp only[hd,Bool.and_eq_true,decide_eq_true_eq] at this;exact this.2.1
 have waits:∀ (i j:Nat) (oi oj:Oper) (d:Nat),ops[i]? = some oi→ops[j]? = some oj→oj.dst=some d→d∈oi.looksAt ops→oi.after.any (fun e=>Region.binds .any e && e.on == j)=true:=fun i j oi oj d hi hj hd hm=>by
  have:=pair i j oi oj hi hj;unfold jb at this;rw[hi,hj] at this;simp only[hd,Bool.and_eq_true,Bool.or_eq_true,Bool.not_eq_true',decide_eq_true_eq] at this;rcases this.2.2 with h0 | h0
  ·rw[List.contains_iff_mem.2 hm] at h0
   cases h0
  ·exact h0
 have aOther:∀ d:Nat,(∀ (i:Nat) (oi:Oper),ops[i]? = some oi→oi.dst≠some d)→A.tmps[d]? = a.tmps[d]? := fun d hd=>by
  rw[← hA];exact jA _ _ _ (fun k o ho=>hd k o (by rw[← Array.getElem?_toList];exact ho))
 have aAt:∀ (i:Nat) (oi:Oper) (d:Nat) (v:Value),ops[i]? = some oi→oi.dst=some d→vs[i]? = some v→A.tmps[d]? = some v:=fun i oi d v hi hd hv=>by
  rw[← hA];exact QA _ _ _ i (by rw[Array.getElem?_toList];exact hi) hv hd (by rw[hn];exact lt i oi d hi hd) (fun j oj hj ho=>dist i j oi oj d hi (by rw[← Array.getElem?_toList];exact ho) (Ne.symm hj) hd)
 refine wp_region_held_drew (S:=S) hm hk (fun hS=> ?_);refine Zs (zpN ops S E a A) (fun _ _ _ h=>h.kept) (fun l a' w' hI hr=> ?_) (fun l a' w' i hI hr=> ?_) _ _ _ _ ?_ ?_
 ·have hl:=Qb (md:=.any) (ops:=ops) hI.size hr hall
  have e:a'=A:=by
   have ht:a'.tmps=A.tmps:=by
    apply Array.ext_getElem?;intro d;by_cases hx:∃ (i:Nat) (oi:Oper),ops[i]? = some oi∧oi.dst=some d
    ·obtain ⟨i,oi,hi,hd⟩:=hx
     exact hI.on i oi d hi hd (hl i (Array.getElem?_eq_some_iff.1 hi).1)
    ·have hno:∀ (i:Nat) (oi:Oper),ops[i]? = some oi→oi.dst≠some d:=fun i oi hi hd=>hx ⟨i,oi,hi,hd⟩
     rw[hI.off d (fun i oi hi hd=>absurd hd (hno i oi hi)),aOther d hno]
   have hdf:a'.defers=A.defers:=by rw[hI.df, ← hA,jL]
   cases a';cases A;simp only at ht hdf;rw[ht,hdf]
  rw[e];exact hQ l w' hl hI.kept hI.told
 ·obtain ⟨hun,oi,hi,hw8⟩:=mem_ready.1 hr
  have hil:i<l.size:=by rw[hI.size];exact (Array.getElem?_eq_some_iff.1 hi).1
  obtain ⟨v,hv,hgv⟩:=hg.at (k:=i) (by rw[Array.getElem?_toList];exact hi);rw[Nat.zero_add] at hgv;have agree:∀ t,t∈oi.looksAt ops→a'.tmps[t]? = A.tmps[t]? := fun t ht=>by
   by_cases hx:∃ (j:Nat) (oj:Oper),ops[j]? = some oj∧oj.dst=some t
   ·obtain ⟨j,oj,hj,hd⟩:=hx
    have:=waits i j oi oj t hi hj hd ht;rw[Array.any_eq_true'] at this;obtain ⟨e,he,h1⟩:=this;rw[Bool.and_eq_true,beq_iff_eq] at h1;have h2:=hw8 e he h1.1;rw[h1.2] at h2;exact hI.on j oj t hj hd h2
   ·have hno:∀ (i:Nat) (oi:Oper),ops[i]? = some oi→oi.dst≠some t:=fun i oi hi hd=>hx ⟨i,oi,hi,hd⟩
    rw[hI.off t (fun i oi hi hd=>absurd hd (hno i oi hi)),aOther t hno]
  have hex:execOp a'.eval oi=execOp A.eval oi:=execOp_congr oi (fun cs b=>by
    exact Region.noSelect_spec hsel i oi cs b hi) (fun x hx=>by
   cases x with
   | tmp t=>
    have:=agree t (List.mem_append_left _ (List.mem_filterMap.2 ⟨.tmp t,by simpa using hx,rfl⟩));simp only[Act.eval,Array.getD_eq_getD_getElem?,this]
   | const v=>rfl
   | global g=>rfl
   | func f=>rfl)
  have hwt:Region.wanted oi (yielded ops a'.tmps)=Region.wanted oi (yielded ops A.tmps):=by
   unfold Region.wanted;cases hgd:oi.guard with
   | none=>rfl
   | some gw=>
    obtain ⟨g,want⟩:=gw;have hy:yielded ops a'.tmps g=yielded ops A.tmps g:=by
     unfold yielded;cases ht:(ops[g]?).bind (·.dst) with
     | none=>rfl
     | some t=>
      have:=agree t (by simp[Oper.looksAt,hgd,ht]);simp[this]
    simp only[hy]
  have next:∀ w2,S w2→E (l.setIfInBounds i true) w2→zpN ops S E a A (l.setIfInBounds i true) (a'.put oi.dst v) w2:=fun w2 k2 e2=>by
   refine ⟨by simpa using hI.size,k2,e2,by rw[QT,hI.sz],by rw[Qd,hI.df],fun j oj d hj hd hl=> ?_,fun d hd=> ?_⟩
   ·by_cases hij:i=j
    ·subst hij
     rw[hi] at hj;cases hj;rw[hd,zdz (by rw[hI.sz,hn];exact lt i oi d hi hd),aAt i oi d v hi hd hv]
    ·rw[jE (dist j i oj oi d hj hi (Ne.symm hij) hd)]
     rw[zX hij] at hl;exact hI.on j oj d hj hd hl
   ·have h1:oi.dst≠some d:=fun e=>by
     have:=hd i oi hi e;rw[q8 hil] at this;cases this
    rw[jE h1];refine hI.off d (fun j oj hj hdj=> ?_);have:=hd j oj hj hdj;by_cases hij:i=j
    ·subst hij
     rw[hi] at hj;cases hj;exact absurd hdj h1
    ·rw[zX hij] at this
     exact this
  refine wpOp_step hi (fun K' hK=> ?_);rw[hwt];rcases hgv with ⟨hw1,hr1⟩ | ⟨hw1,rfl,hpass⟩
  ·rw[if_pos hw1]
   unfold Oper.wp;rw[hex];rcases hr1 l w' hil hI.kept hI.told with ⟨w2,he,k2,e2⟩ | ⟨w2,he,rfl,k2,e2⟩ | ⟨f,args,he,hc⟩
   ·rw[he]
    exact hK _ _ (next w2 k2 e2)
   ·rw[he]
    exact hK _ _ (next w2 k2 e2)
   ·rw[he]
    simp only[Oper.upon];refine Calls.mono hc (fun e w2=> ?_);rintro ⟨rfl,k2,e2⟩;exact hK _ _ (next w2 k2 e2)
  ·rw[if_neg (by rw[hw1];simp)]
   exact hK _ _ (next w' hI.kept (hpass l w' hI.kept hI.told))
 ·refine ⟨by simp,hS,he,rfl,rfl,fun i oi d hi hd hl=> ?_,fun d hd=>rfl⟩
  exfalso;rw[Array.getD_eq_getD_getElem?] at hl;by_cases hlt:i<ops.size
  ·rw[Array.getElem?_replicate,if_pos hlt] at hl
   cases hl
  ·rw[Array.getElem?_replicate,if_neg hlt] at hl
   cases hl
 ·unfold left
  exact Nat.le_trans List.countP_le_length (by simp)
end
theorem zcD{a b:Int}{r:Bool}(ho:oi.op=.binOp .lss 3 x y 3)(hx:ev x=int i64 a)(hy:ev y=int i64 b)(hr:decide (a<b)=r):(execOp ev oi).run Tryz.prog w=.ok (.value (.bool r)) w:=by
 simp[execOp,ho,hx,hy,go_sem,hr]
theorem zaZ(v u t:Value)(w:World):(callFunc 69 #[v,u,t]).run Tryz.prog w=.ok (.enter 69 #[v,u,t]) w:=by go_simp
theorem za1(v u:Value)(w:World):(callFunc 70 #[v,u]).run Tryz.prog w=.ok (.enter 70 #[v,u]) w:=by go_simp
theorem QD{ad:Addr}(hc:w.cell? ad=some v)(ho:oi.op=.load 43 y)(hy:ev y=.pointer (some ad)):(execOp ev oi).run Tryz.prog w=.ok (.value v) w:=by simp[execOp,ho,hy,go_sem,hc]
theorem Qt{ad:Addr}(hc:w.cell? ad=some v)(ho:oi.op=.load 40 y)(hy:ev y=.pointer (some ad)):(execOp ev oi).run Tryz.prog w=.ok (.value v) w:=by simp[execOp,ho,hy,go_sem,hc]
theorem znL{o:Nat}{v0 v1 v2 v3 v4:Value}(h0:w.cell? ⟨b,o+0,none⟩=some v0)(h1:w.cell? ⟨b,o+1,none⟩=some v1)(h2:w.cell? ⟨b,o+2,none⟩=some v2)(h3:w.cell? ⟨b,o+3,none⟩=some v3)(h4:w.cell? ⟨b,o+4,none⟩=some v4)(ho:oi.op=.load 42 y)(hy:ev y=pointer (some ⟨b,o,none⟩)):(execOp ev oi).run Tryz.prog w=.ok (.value (agg #[v0,v1,v2,v3,v4])) w:=by
 rw[Nat.add_zero] at h0;simp[execOp,ho,hy,go_sem,h0,h1,h2,h3,h4]
theorem QH{o j:Nat}(ho:oi.op=.indexAddr 43 x y)(hx:ev x=.slice (some ⟨b,o,none⟩) n c)(hy:ev y=int i64 (j:Int))(hj:(j:Int)<(n:Int)):(execOp ev oi).run Tryz.prog w=.ok (.value (pointer (some ⟨b,o+j * 5,none⟩))) w:=by
 simp[execOp,ho,hx,hy,go_sem];intro h';omega
theorem zh3{o j:Nat}(ho:oi.op=.indexAddr 40 x y)(hx:ev x=.slice (some ⟨b,o,none⟩) n c)(hy:ev y=int i64 (j:Int))(hj:(j:Int)<(n:Int)):(execOp ev oi).run Tryz.prog w=.ok (.value (pointer (some ⟨b,o+j * 6,none⟩))) w:=by
 simp[execOp,ho,hx,hy,go_sem];intro h';omega
theorem Qv{a:Option Addr}(ho:oi.op=.call { callee:=.builtin .len,args:=#[x],argTypes:=#[40] })(hx:ev x=.slice a n c):(execOp ev oi).run Tryz.prog w=.ok (.value (int i64 (n:Int))) w:=by
 obtain ⟨dst,op,type,pos,after,guard⟩:=oi;simp only at ho;subst ho;simp[hx,go_sem]
theorem zl8{a:Option Addr}(ho:oi.op=.call { callee:=.builtin .len,args:=#[x],argTypes:=#[30] })(hx:ev x=.slice a n c):(execOp ev oi).run Tryz.prog w=.ok (.value (int i64 (n:Int))) w:=by
 obtain ⟨dst,op,type,pos,after,guard⟩:=oi;simp only at ho;subst ho;simp[hx,go_sem]
theorem zfJ{P:Program}{f:Nat}{ts:Array TypeId}(ho:oi.op=.call { callee:=.value (.func f),args:=#[],argTypes:=ts })(hf:ev (.func f)=.func (.func f) #[] #[])(hc:(callFunc f #[]).run P w=.ok (.enter f #[]) w):(execOp ev oi).run P w=.ok (.enter f #[]) w:=by
 simp[execOp,ho,hf,go_sem,hc]
theorem Qp(w:World):(callFunc 13 #[]).run Tryz.prog w=.ok (.enter 13 #[]) w:=by go_simp
theorem zkv(v u:Value)(w:World):(callFunc 68 #[v,u]).run Tryz.prog w=.ok (.enter 68 #[v,u]) w:=by go_simp
theorem zod{z0 z1 z2:Value}{u0 u1 u2:Int}{z:Operand}(h:w.heap[q]? = some (.cells #[z0,z1,z2] 55 (0,0)))(ho:oi.op=.store 55 y z)(hy:ev y=pointer (some ⟨q,0,none⟩))(hz:ev z=agg #[int i64 u0,int i64 u1,int i64 u2]):(execOp ev oi).run Tryz.prog w=.ok .skip (((w.setCell ⟨q,0,none⟩ (int i64 u0)).setCell ⟨q,1,none⟩ (int i64 u1)).setCell ⟨q,2,none⟩ (int i64 u2)):=by
 have y0:=zi h 0;have y1:=zi h 1;have y2:=zi h 2;have x0:=zd h 0;have x1:=zd h 1;have x2:=zd h 2;simp[execOp,ho,hy,hz,go_sem,y0,y1,y2,x0,x1,x2]
def ptE(q:Nat)(l:Array Bool)(w:World):Prop:=w.heap[q]? = some (.cells (bif l.getD 11 false then #[int i64 (-1),int i64 0,int i64 0] else #[int i64 0,int i64 0,int i64 0]) 55 (0,0))
theorem ptE.keep(h:ptE q l w)(hi:i≠11):ptE q (l.setIfInBounds i true) w:=by
 unfold ptE;rw[zX hi];exact h
theorem ptE.quiet{w':World}(h:ptE q l w)(k:zc [] w w'):ptE q l w':=ze h k
theorem ptE.put(h:ptE q l w)(hi:11<l.size){z:Operand}(ho:oi.op=.store 55 y z)(hy:ev y=pointer (some ⟨q,0,none⟩))(hz:ev z=agg #[int i64 (-1),int i64 0,int i64 0]):(execOp ev oi).run Tryz.prog w=.ok .skip (((w.setCell ⟨q,0,none⟩ (int i64 (-1))).setCell ⟨q,1,none⟩ (int i64 0)).setCell ⟨q,2,none⟩ (int i64 0))∧ptE q (l.setIfInBounds 11 true) (((w.setCell ⟨q,0,none⟩ (int i64 (-1))).setCell ⟨q,1,none⟩ (int i64 0)).setCell ⟨q,2,none⟩ (int i64 0)):=by
 unfold ptE at h ⊢;rw[q8 hi];cases hl:l.getD 11 false with
 | true=>
  rw[hl] at h;exact ⟨zod h ho hy hz,ZC h _ _ _⟩
 | false=>
  rw[hl] at h;exact ⟨zod h ho hy hz,ZC h _ _ _⟩
theorem ptE.put2(h:ptE q l w)(hi:11<l.size):ptE q (l.setIfInBounds 11 true) (((w.setCell ⟨q,0,none⟩ (int i64 (-1))).setCell ⟨q,1,none⟩ (int i64 0)).setCell ⟨q,2,none⟩ (int i64 0)):=by
 unfold ptE at h ⊢;rw[q8 hi];cases hl:l.getD 11 false with
 | true=>
  rw[hl] at h;exact ZC h _ _ _
 | false=>
  rw[hl] at h;exact ZC h _ _ _
theorem ptE.all(h:ptE q l w)(hl:l.getD 11 false=true):w.heap[q]? = some (.cells #[int i64 (-1),int i64 0,int i64 0] 55 (0,0)):=by
 unfold ptE at h;rw[hl] at h;exact h
theorem ptE.start(h:w.heap[q]? = some (.cells #[int i64 0,int i64 0,int i64 0] 55 (0,0))):ptE q (Array.replicate n false) w:=by
 unfold ptE;have:(Array.replicate n false).getD 11 false=false:=by
  rw[Array.getD_eq_getD_getElem?,Array.getElem?_replicate];split <;> rfl
 rw[this];exact h
def zb4{α:Type}(l:List α)(g:α→Bool)(k:Nat):Bool:=(l.take k).all g
theorem jK{α:Type}(l:List α)(g:α→Bool):zb4 l g 0=true:=by unfold zb4;simp
theorem jM{α:Type}{l:List α}{g:α→Bool}{k:Nat}{y:α}(hy:l[k]? = some y):zb4 l g (k+1)=(zb4 l g k && g y):=by
 unfold zb4;rw[List.take_add_one,hy];simp
theorem jG{α:Type}{l:List α}{g:α→Bool}{k:Nat}(h:k=l.length):zb4 l g k=l.all g:=by unfold zb4;rw[h,List.take_length]
end Go.Proofs.YtkgoimokgbdgfaaGreatDoor
