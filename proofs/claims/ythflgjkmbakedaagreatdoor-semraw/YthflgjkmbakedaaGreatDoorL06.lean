import Derived.Test.YthflgjkmbakedaaGreatDoorL05
set_option maxRecDepth 20000
set_option maxHeartbeats 4000000
namespace Go.Proofs.YthflgjkmbakedaaGreatDoor
open Go.Value (int pointer agg)
open Go.IntKind (i64)
open Go.RowKit
theorem j3e(f:Nat)(w:World):(Instr.buildSlice 115 1 #[(0,.agg (frC (fr0 f)).toArray)]).run Tryz.prog w=.ok (.slice (some ⟨w.heap.size,0,none⟩) 1 1) (w.alloc (.cells (frC (fr0 f)).toArray 114)):=by
 have hl:(fr0 f).rs.length=16:=List.length_replicate;obtain ⟨z,hz,hzs⟩:∃ z,Tryz.t114.zero=some z∧z.cells.size=67:=by
  have:=j29;cases e:Tryz.t114.zero with
  | none=>rw[e] at this;simp at this
  | some z=>rw[e] at this;exact ⟨z,rfl,by simpa using this⟩
 have hc:(Value.agg (frC (fr0 f)).toArray).cells.size=67:=by
  show (frC (fr0 f)).toArray.size=67;rw[List.size_toArray,j00 hl]
 have hf:=Go.Great.fill_whole (s:=67) (by omega) [.agg (frC (fr0 f)).toArray] ((Array.range (1 * 67)).map (z.cells[· % z.cells.size]!)) (fun v hv=>by rw[List.mem_singleton.1 hv];exact hc) (by simp)
 exact run_buildSlice (P:=Tryz.prog) w 115 114 1 #[(0,.agg (frC (fr0 f)).toArray)] (frC (fr0 f)).toArray Tryz.t114 z j28 j27 hz (by rw[j3a];omega) (by rw[j3a];omega) (by
  rw[j3a];refine hf.trans ?_
  simp[Value.cells])
theorem j3f(p0 p2:Option Addr)(a b:Option Addr)(n c n' c':Nat)(w:World):(Instr.build 119 #[(0,.pointer p0),(1,.slice a n c),(2,.pointer p2),(4,.slice b n' c')]).run Tryz.prog w=.ok (agg #[.pointer p0,.slice a n c,.pointer p2,.slice none 0 0,.slice b n' c',.bool false,int i64 0,.bool false,int i64 0,int i64 0,.bool false]) w:=run_build w _ _ _ (by kernel_rfl)
theorem j3g(f:Nat)(w:World):(Instr.build 114 #[(0,agg #[int i64 (f:Int),int i64 0,int i64 0])]).run Tryz.prog w=.ok (.agg (frC (fr0 f)).toArray) w:=run_build w _ _ _ (by kernel_rfl)
theorem j3h{w:World}{a:Option Addr}{cp:Nat}{l:List Int}(h:z7 w 1 ji a l)(hl:l.length≤1000000):Calls Tryz.prog 55 #[.slice a l.length cp] w fun e w'=>∃ v,e=.returned v∧zkL (zod w.heap.size w') v l∧zc [] w w':=by
 cases a with
 | none=>
  have e:l=[]:=by
   rcases h with e | ⟨b,off,e,_⟩
   ·exact e
   ·cases e
  subst e;refine (j14 0 cp w).mono ?_;rintro e w' ⟨rfl,k⟩;exact ⟨_,rfl,⟨none,0,rfl,.inl rfl,Nat.le_refl _,Nat.zero_le _⟩,k⟩
 | some ad=>
  by_cases e:l=[]
  ·subst e
   refine (j15 ad 0 cp [] w rfl (fun j u hu=>by simp at hu) (fun u hu=>by cases hu) (by omega)).mono ?_;rintro e w' ⟨g,cap,rfl,own,_,k⟩;exact ⟨_,rfl,⟨_,cap,rfl,.inl rfl,Nat.zero_le _,Nat.zero_le _⟩,k⟩
  ·rcases h with e' | ⟨b,off,e',hr⟩
   ·exact absurd e' e
   ·cases e'
    obtain ⟨xs,x1,x2,x3⟩:=raws j16 l off hr;refine (j15 ⟨b,off,none⟩ l.length cp xs w x1 (fun j u hu=>by rw[j2f];exact x2 j u hu) x3 (by omega)).mono ?_;rintro e9 w' ⟨g,cap,rfl,own,hg,k⟩;refine ⟨_,rfl,⟨_,cap,rfl,.inr ⟨g,0,rfl,fun j y hy=> ?_⟩,?_,by unfold maxLen;omega⟩,k⟩
    ·have hj:=(List.getElem?_eq_some_iff.1 hy).1
     have r:=hr j y hy;rw[Nat.zero_add];exact ⟨(j2e own (j2g x1 x2 (by omega) r.1)).1,r.2⟩
    ·rcases own.2 with ⟨h',_⟩ | ⟨g',cap',cur,h',_,_,hn,_⟩
     ·simp at h'
     ·simp at h'
      omega
def runP(P:Pr8):Pr8:={ P with sigs:=[],ifs:=[],main:=0 }
def hole(F:List Nat)(w:World):World:={ w with heap:=w.heap.mapIdx fun i o=>if i∈F then .cells #[] 0 (0,0) else o }
theorem j3i(F:List Nat)(w:World)(k:Nat):(hole F w).heap[k]? = (w.heap[k]?).map fun o=>if k∈F then Obj.cells #[] 0 (0,0) else o:=by
 unfold hole;rw[Array.getElem?_mapIdx]
theorem j3j{F:List Nat}{w:World}{k:Nat}(h:k ∉ F):(hole F w).heap[k]? = w.heap[k]? := by
 rw[j3i];simp[h]
theorem j3k{F:List Nat}{w:World}{p:Addr}{v:Value}(h:(hole F w).cell? p=some v):p.block ∉ F∧w.cell? p=some v:=by
 by_cases hb:p.block∈F
 ·exfalso
  unfold World.cell? at h;rw[j3i] at h;cases e:w.heap[p.block]? with
  | none=>rw[e] at h;simp at h
  | some o=>rw[e] at h;simp[hb] at h
 ·refine ⟨hb,?_⟩
  rw[← World.cell?_of_block (w:=w) (j3j hb)];exact h
theorem j3l{F:List Nat}{w:World}{p:Addr}{v:Value}(hb:p.block ∉ F)(h:w.cell? p=some v):(hole F w).cell? p=some v:=by
 rw[World.cell?_of_block (w:=w) (j3j hb)];exact h
theorem Sub.hole{F:List Nat}{B:Nat}{u w:World}(k:zc [] u w)(h:∀ x,x∈F→x<B∨u.heap.size≤x):Sub (zod B u) (Go.Proofs.YthflgjkmbakedaaGreatDoor.hole F w):=fun p v e=>by
 obtain ⟨h1,h2⟩:=j0t e;refine j3l (fun hm=> ?_) (za k h2);have:=block_lt_of_cell h2;rcases h _ hm with h | h <;> omega
theorem Sub.kept9{F:List Nat}{w u:World}(k:zc F w u):Sub (Go.Proofs.YthflgjkmbakedaaGreatDoor.hole F w) u:=fun p v e=>by
 obtain ⟨h1,h2⟩:=j3k e;rw[k.cell (block_lt_of_cell h2) h1];exact h2
theorem j3m{w9:World}{P:Pr8}{l:List Int}{f n q mp fg hb:Nat}{F:List Nat}{a:Option Addr}{c B1 B2:Nat}{u1 u2 u3 u4:World}(hF:F=[mp,fg,hb])(hf:P.main=(f:Int))(hn:n=l.length)
  (e5:w9.heap[mp]? = some (.cells #[pointer (some ⟨q,0,none⟩),.slice a n c,pointer (some ⟨hb,0,none⟩),.slice none 0 0,.slice (some ⟨fg,0,none⟩) 1 1,.bool false,int i64 0,.bool false,int i64 0,int i64 0,.bool false] 119 (0,0)))
  (e4:znG u4 (.slice (some ⟨fg,0,none⟩) 1 1) [fr0 f]) (k4:zc [] u4 w9) (e3:Hp u3 hb [] [hb]) (k3:zc [] u3 w9)
  (e1:PrC (zod B1 u1) q 0 (runP P)) (k1:zc [] u1 w9) (s1:fg<B1∨u1.heap.size≤fg) (s2:u1.heap.size≤hb) (s3:u1.heap.size≤mp)
  (e2:z7 (zod B2 u2) 1 ji a l) (k2:zc [] u2 w9) (t1:fg<B2∨u2.heap.size≤fg) (t2:u2.heap.size≤hb) (t3:u2.heap.size≤mp)
  (hc:l.length≤c∧l.length≤maxLen) (n1:hb≠mp) (n2:hb≠fg):
  MaS (hole F w9) w9 mp q fg (runP P) (ma0 P l) F hb 1 (.slice none 0 0) a c [] [hb]:=by
 subst hF hn;have E4:=e4.quiet k4;have E3:=e3.quiet k3;have hm:(ma0 P l).top=fr0 f:=by
  show fr0 P.main.toNat=fr0 f;rw[hf];rfl
 refine ⟨e5,?_,⟨rfl,.inl ⟨rfl,rfl⟩⟩,E3,rfl,by simp,by simp,fun b hb=>by simp[Value.ownBlock] at hb,fun x hx=>by rw[List.mem_singleton.1 hx];simp,fun x hx=> ?_,PrC.sub _ _ _ _ _ (Sub.hole k1 ?_) e1,e2.sub ji.sub (Sub.hole k2 ?_),fun u ku=>Sub.kept9 ku,hc,fun x hx=> ?_⟩
 ·rw[hm]
  exact E4
 ·rw[List.mem_singleton.1 hx]
  exact ⟨n1,n2,by simp[Value.ownBlock]⟩
 ·intro x hx
  simp only[List.mem_cons,List.not_mem_nil,or_false] at hx;rcases hx with rfl | rfl | rfl
  ·exact .inr s3
  ·exact s1
  ·exact .inr s2
 ·intro x hx
  simp only[List.mem_cons,List.not_mem_nil,or_false] at hx;rcases hx with rfl | rfl | rfl
  ·exact .inr t3
  ·exact t1
  ·exact .inr t2
 ·simp only[List.mem_cons,List.not_mem_nil,or_false] at hx
  rcases hx with rfl | rfl | rfl
  ·exact zQ e5
  ·exact (E4.own.lt _ rfl).2
  ·exact E3.lt _ (List.mem_singleton.2 rfl)
theorem j3n{w:World}{ad:Addr}{v:Value}{ev:Operand→Value}{oi:Oper}{y:Operand}(hc:w.cell? ad=some v)(ho:oi.op=.load 3 y)(hy:ev y=.pointer (some ad)):(execOp ev oi).run Tryz.prog w=.ok (.value v) w:=by simp[execOp,ho,hy,go_sem,hc]
theorem j3o{f:Nat}{w:World}{ev:Operand→Value}{oi:Oper}{x:Operand}(ho:oi.op=.build 99 #[(0,x)])(hx:ev x=int i64 (f:Int)):(execOp ev oi).run Tryz.prog w=.ok (.value (agg #[int i64 (f:Int),int i64 0,int i64 0])) w:=by
 have h:(Instr.build 99 #[(0,int i64 (f:Int))]).run Tryz.prog w=.ok (agg #[int i64 (f:Int),int i64 0,int i64 0]) w:=run_build w _ _ _ (by kernel_rfl);unfold execOp;simp only[ho];simp[hx,h]
theorem j3p{f:Nat}{w:World}{FC:Array Value}{ev:Operand→Value}{oi:Oper}{x:Operand}(hFC:FC=(frC (fr0 f)).toArray)(ho:oi.op=.build 114 #[(0,x)])(hx:ev x=agg #[int i64 (f:Int),int i64 0,int i64 0]):(execOp ev oi).run Tryz.prog w=.ok (.value (.agg FC)) w:=by
 have h:=j3g f w;rw[← hFC] at h;unfold execOp;simp only[ho];simp[hx,h]
theorem esbs{f:Nat}{w:World}{FC:Array Value}{ev:Operand→Value}{oi:Oper}{x:Operand}(hFC:FC=(frC (fr0 f)).toArray)(ho:oi.op=.buildSlice 115 1 #[(0,x)])(hx:ev x=.agg FC):(execOp ev oi).run Tryz.prog w=.ok (.value (.slice (some ⟨w.heap.size,0,none⟩) 1 1)) (w.alloc (.cells FC 114)):=by
 have h:=j3e f w;rw[← hFC] at h;unfold execOp;simp only[ho];simp[hx,h]
theorem j3q{p0 p2:Option Addr}{a b:Option Addr}{n c n' c':Nat}{w:World}{ev:Operand→Value}{oi:Oper}{x0 x1 x2 x4:Operand}(ho:oi.op=.build 119 #[(0,x0),(1,x1),(2,x2),(4,x4)])(h0:ev x0=.pointer p0)(h1:ev x1=.slice a n c)(h2:ev x2=.pointer p2)(h4:ev x4=.slice b n' c'):
  (execOp ev oi).run Tryz.prog w=.ok (.value (agg #[.pointer p0,.slice a n c,.pointer p2,.slice none 0 0,.slice b n' c',.bool false,int i64 0,.bool false,int i64 0,int i64 0,.bool false])) w:=by
 have h:=j3f p0 p2 a b n c n' c' w;unfold execOp;simp only[ho];simp[h0,h1,h2,h4,h]
theorem ebox{cs:Array Value}{T:TypeId}{w:World}{ev:Operand→Value}{oi:Oper}{x:Operand}(ho:oi.op=.box T x)(hx:ev x=.agg cs):(execOp ev oi).run Tryz.prog w=.ok (.value (pointer (some ⟨w.heap.size,0,none⟩))) (w.alloc (.cells cs T)):=by
 unfold execOp;simp only[ho,hx,Sem.run_bind,Instr.box,newVar,newRow,run_newObj_alloc,Sem.run_pure,Result.andThen_ok,Value.cells]
theorem j3r{P:Program}{ev:Operand→Value}{oi:Oper}{f:Nat}{ts:Array TypeId}{w:World}(ho:oi.op=.call { callee:=.value (.func f),args:=#[],argTypes:=ts })(hf:ev (.func f)=.func (.func f) #[] #[])(hc:(callFunc f #[]).run P w=.ok (.enter f #[]) w):(execOp ev oi).run P w=.ok (.enter f #[]) w:=by
 simp[execOp,ho,hf,go_sem,hc]
theorem j3s(v:Value)(w:World):(callFunc 54 #[v]).run Tryz.prog w=.ok (.enter 54 #[v]) w:=by go_simp
theorem j3t(v:Value)(w:World):(callFunc 55 #[v]).run Tryz.prog w=.ok (.enter 55 #[v]) w:=by go_simp
theorem j3u(w:World):(callFunc 56 #[]).run Tryz.prog w=.ok (.enter 56 #[]) w:=by go_simp
theorem j3v{w:World}{pp:Nat}{P:Pr8}{a:Option Addr}{cp:Nat}{l:List Int}(h:PrC w pp 0 P)(hg:zeP w)(hT:Ze w)(ok:wfO P=none)(ho:z7 w 1 ji a l)(hl:l.length≤1000000)(f:Nat)(hf:P.main=(f:Int))(h1:P.recs.length≤1000)(h2:P.ims.length≤1000)(h3:P.funcs.length≤1000)(r1:∀ r,r∈P.recs→r.length≤1000)(r2:∀ x,x∈P.ims→x.2.2.length≤1000)(r3:∀ f,f∈P.funcs→f.regs.length≤1000∧f.blocks.length≤1000∧∀ y,y∈f.blocks→y.code.length≤1000∧∀ x,x∈y.code→x.args.length≤1000):
  Calls Tryz.prog 14 #[pointer (some ⟨pp,0,none⟩),.slice a l.length cp] w fun e w'=>∃ W0 mp qq fg F hb oa oc Fh,e=.returned (pointer (some ⟨mp,0,none⟩))∧MaS W0 w' mp qq fg (runP P) (ma0 P l) F hb 1 (.slice none 0 0) oa oc [] Fh∧zc [] w w'∧∀ x,x∈F→w.heap.size≤x:=by
 have HW:=hid (zeF h hg hT);rw[ok] at HW;have HKP:=hid fun (w':World) (k:zc [] w w')=>j3d (PrC.stays _ _ _ _ _ k h) h1 h2 h3 r1 r2 r3;obtain ⟨n,hn⟩:∃ n,n=l.length:=⟨_,rfl⟩;have HCO:=hid fun (w':World) (k:zc [] w w')=>j3h (cp:=cp) (ho.quiet ji.stays k) hl;rw[← hn] at HCO ⊢;have PM:=hid fun (w':World) (k:zc [] w w')=>(show w'.cell? ⟨pp,5,none⟩=some (int i64 (f:Int)) by rw[← hf];have:=za k h.c5.1;rwa [Nat.zero_add] at this);have HF:=hid hf;have HN:=hid hn;clear h hg hT ok ho hl hf hn h1 h2 h3 r1 r2 r3;go_enter Tryz.func14,Tryz.ntmps14;go_wp2_with fail;refine HW.o.mono ?_;rintro e w2 ⟨rfl,k2⟩;have K2:=hid k2;clear k2 HW;go_upto_region 3 with fail;have c5:=PM.o w2.drew (K2.o.quiet (zc.drew [] w2));obtain ⟨FC,hFC⟩:∃ c,c=(frC (fr0 f)).toArray:=⟨_,rfl⟩;have HFC:=hid hFC;clear hFC;refine wp_region_held_drew (S:=fun w'=>w'.cell? ⟨pp,5,none⟩=some (int i64 (f:Int))) (by kernel_rfl) c5 (fun _=> ?_);have K_wd:Box (zc [] w w2.drew):=hid (K2.o.quiet (zc.drew [] w2));have CD:=hid c5;clear c5 K2;generalize w2.drew=wd at *;refine jG (i:=0) (d:=8) (v:=pointer (some ⟨pp,0,none⟩)) rfl rfl (by as_aux_lemma=>kernel_rfl) (by as_aux_lemma=>kernel_rfl) (by as_aux_lemma=>kernel_rfl) (fun _ _ _ h=>h) (by rfl) CD.o (fun _ _=>rfl) ?_;simp only[Act.put,List.setIfInBounds_toArray,List.set_cons_zero,List.set_cons_succ];refine jG (i:=2) (d:=10) (v:=.slice a n cp) rfl rfl (by as_aux_lemma=>kernel_rfl) (by as_aux_lemma=>kernel_rfl) (by as_aux_lemma=>kernel_rfl) (fun _ _ _ h=>h) (by rfl) CD.o (fun _ _=>rfl) ?_;simp only[Act.put,List.setIfInBounds_toArray,List.set_cons_zero,List.set_cons_succ];refine jG (i:=5) (d:=13) (v:=pointer (some ⟨pp,0,none⟩)) rfl rfl (by as_aux_lemma=>kernel_rfl) (by as_aux_lemma=>kernel_rfl) (by as_aux_lemma=>kernel_rfl) (fun _ _ _ h=>h) (by rfl) CD.o (fun _ _=>rfl) ?_;simp only[Act.put,List.setIfInBounds_toArray,List.set_cons_zero,List.set_cons_succ];refine jG (i:=6) (d:=14) (v:=pointer (some ⟨pp,0,none⟩)) rfl rfl (by as_aux_lemma=>kernel_rfl) (by as_aux_lemma=>kernel_rfl) (by as_aux_lemma=>kernel_rfl) (fun _ _ _ h=>h) (by rfl) CD.o (fun _ _=>rfl) ?_;simp only[Act.put,List.setIfInBounds_toArray,List.set_cons_zero,List.set_cons_succ];refine jG (i:=7) (d:=15) (v:=pointer (some ⟨pp,5,none⟩)) rfl rfl (by as_aux_lemma=>kernel_rfl) (by as_aux_lemma=>kernel_rfl) (by as_aux_lemma=>kernel_rfl) (fun _ _ _ h=>h) (by rfl) CD.o (fun _ _=>rfl) ?_;simp only[Act.put,List.setIfInBounds_toArray,List.set_cons_zero,List.set_cons_succ];refine jG (i:=8) (d:=16) (v:=int i64 (f:Int)) rfl rfl (by as_aux_lemma=>kernel_rfl) (by as_aux_lemma=>kernel_rfl) (by as_aux_lemma=>kernel_rfl) (fun _ _ _ h=>h) (by rfl) CD.o (fun _ h9=>j3n h9 rfl rfl) ?_;simp only[Act.put,List.setIfInBounds_toArray,List.set_cons_zero,List.set_cons_succ];refine jG (i:=9) (d:=17) (v:=agg #[int i64 (f:Int),int i64 0,int i64 0]) rfl rfl (by as_aux_lemma=>kernel_rfl) (by as_aux_lemma=>kernel_rfl) (by as_aux_lemma=>kernel_rfl) (fun _ _ _ h=>h) (by rfl) CD.o (fun _ _=>j3o rfl rfl) ?_;simp only[Act.put,List.setIfInBounds_toArray,List.set_cons_zero,List.set_cons_succ]
 refine jG (i:=10) (d:=18) (v:=.agg FC) rfl rfl (by as_aux_lemma=>kernel_rfl) (by as_aux_lemma=>kernel_rfl) (by as_aux_lemma=>kernel_rfl) (fun _ _ _ h=>h) (by rfl) CD.o (fun _ _=>j3p HFC.o rfl rfl) ?_;simp only[Act.put,List.setIfInBounds_toArray,List.set_cons_zero,List.set_cons_succ];refine j21 (i:=1) (j:=11) (by as_aux_lemma=>kernel_rfl) ?_ ?_
 ·as_aux_lemma=>
   refine zcC (i:=1) (d:=9) rfl rfl (by rfl) 54 #[pointer (some ⟨pp,0,none⟩)] (j23 rfl rfl rfl (j3s _ _)) (R:=fun v w'=>∃ q,v=pointer (some ⟨q,0,none⟩)∧PrC (zod wd.heap.size w') q 0 (runP P)∧zc [] wd w') ((HKP.o wd K_wd.o).mono fun e w' ⟨q,h1,h2,h3⟩=>⟨_,h1,q,rfl,h2,h3⟩) ?_;rintro v wk ⟨q,rfl,r5,k5⟩;have R5:=hid r5;have CK:=hid k5;have K_wk:=hid (K_wd.o.quiet k5);have Z_wk:=hid k5.size;clear r5 k5;refine ⟨PM.o _ K_wk.o,?_⟩;simp only[Act.put,List.setIfInBounds_toArray,List.set_cons_zero,List.set_cons_succ];refine j21 (i:=3) (j:=11) (by as_aux_lemma=>kernel_rfl) ?_ ?_
   ·as_aux_lemma=>
     refine zcC (i:=3) (d:=11) rfl rfl (by rfl) 55 #[.slice a n cp] (j23 rfl rfl rfl (j3t _ _)) (R:=fun v w'=>zkL (zod wk.heap.size w') v l∧zc [] wk w') ((HCO.o wk K_wk.o).mono fun e w' ⟨v,h1,h2,h3⟩=>⟨v,h1,h2,h3⟩) ?_;rintro v wc ⟨r6,k6⟩;obtain ⟨a6,c6,e6,x6,y6,z6⟩:=r6;rw[← HN.o] at e6;subst e6;have R6:=hid x6;have L6:=hid (And.intro y6 z6);have CC:=hid k6;have K_wc:=hid (K_wk.o.quiet k6);have Z_wc:=hid k6.size;clear x6 y6 z6 k6;refine ⟨PM.o _ K_wc.o,?_⟩;simp only[Act.put,List.setIfInBounds_toArray,List.set_cons_zero,List.set_cons_succ];refine j21 (i:=4) (j:=11) (by as_aux_lemma=>kernel_rfl) ?_ ?_
     ·as_aux_lemma=>
       refine zcC (i:=4) (d:=12) rfl rfl (by rfl) 56 #[] (j3r rfl rfl (j3u _)) (R:=fun v w'=>v=pointer (some ⟨wc.heap.size,0,none⟩)∧Hp w' wc.heap.size [] [wc.heap.size]∧zc [] wc w') ((j0v wc).mono fun e w' ⟨h1,h2,h3⟩=>⟨_,h1,rfl,h2,h3⟩) ?_;rintro v wn ⟨rfl,r7,k7⟩;have R7:=hid r7;have CN:=hid k7;have K_wn:=hid (K_wc.o.quiet k7);have Z_wn:=hid (And.intro k7.size (r7.lt _ (List.mem_singleton.2 rfl)));clear r7 k7;refine ⟨PM.o _ K_wn.o,?_⟩;simp only[Act.put,List.setIfInBounds_toArray,List.set_cons_zero,List.set_cons_succ];refine j22 (i:=11) (by as_aux_lemma=>kernel_rfl) ?_;refine zfM (i:=11) rfl (by rfl) (esbs HFC.o rfl rfl) ?_;have CB:Box (zc [] wn (wn.alloc (.cells FC 114))):=hid (zc.alloc [] _ _);have R4:Box (znG (wn.alloc (.cells FC 114)) (.slice (some ⟨wn.heap.size,0,none⟩) 1 1) [fr0 f]):=hid (by rw[HFC.o];exact j3b wn f);have K_wb:Box (zc [] w (wn.alloc (.cells FC 114))):=hid (K_wn.o.quiet CB.o);have Z_wb:Box ((wn.alloc (.cells FC 114)).heap.size=wn.heap.size+1):=hid (by simp);refine ⟨PM.o _ K_wb.o,?_⟩;simp only[Act.put,List.setIfInBounds_toArray,List.set_cons_zero,List.set_cons_succ];generalize wn.alloc (.cells FC 114)=wb at *;refine j22 (i:=12) (by as_aux_lemma=>kernel_rfl) ?_;refine zfM (i:=12) rfl (by rfl) (j3q rfl rfl rfl rfl rfl) ?_;refine ⟨PM.o _ K_wb.o,?_⟩;simp only[Act.put,List.setIfInBounds_toArray,List.set_cons_zero,List.set_cons_succ];refine j22 (i:=13) (by as_aux_lemma=>kernel_rfl) ?_;refine zfM (i:=13) rfl (by rfl) (ebox rfl rfl) ?_;have CX:Box (zc [] wb (wb.alloc (.cells #[pointer (some ⟨q,0,none⟩),.slice a6 n c6,pointer (some ⟨wc.heap.size,0,none⟩),.slice none 0 0,.slice (some ⟨wn.heap.size,0,none⟩) 1 1,.bool false,int i64 0,.bool false,int i64 0,int i64 0,.bool false] 119))):=hid (zc.alloc [] _ _);have RX:Box ((wb.alloc (.cells #[pointer (some ⟨q,0,none⟩),.slice a6 n c6,pointer (some ⟨wc.heap.size,0,none⟩),.slice none 0 0,.slice (some ⟨wn.heap.size,0,none⟩) 1 1,.bool false,int i64 0,.bool false,int i64 0,int i64 0,.bool false] 119)).heap[wb.heap.size]? = some (.cells #[pointer (some ⟨q,0,none⟩),.slice a6 n c6,pointer (some ⟨wc.heap.size,0,none⟩),.slice none 0 0,.slice (some ⟨wn.heap.size,0,none⟩) 1 1,.bool false,int i64 0,.bool false,int i64 0,int i64 0,.bool false] 119 (0,0))):=hid (zh _ _);have K_wx:Box (zc [] w (wb.alloc (.cells #[pointer (some ⟨q,0,none⟩),.slice a6 n c6,pointer (some ⟨wc.heap.size,0,none⟩),.slice none 0 0,.slice (some ⟨wn.heap.size,0,none⟩) 1 1,.bool false,int i64 0,.bool false,int i64 0,int i64 0,.bool false] 119))):=hid (K_wb.o.quiet CX.o);refine ⟨PM.o _ K_wx.o,?_⟩;simp only[Act.put,List.setIfInBounds_toArray,List.set_cons_zero,List.set_cons_succ];generalize wb.alloc (.cells #[pointer (some ⟨q,0,none⟩),.slice a6 n c6,pointer (some ⟨wc.heap.size,0,none⟩),.slice none 0 0,.slice (some ⟨wn.heap.size,0,none⟩) 1 1,.bool false,int i64 0,.bool false,int i64 0,int i64 0,.bool false] 119)=wx at *;refine j22 (i:=14) (by as_aux_lemma=>kernel_rfl) ?_;refine zfM (i:=14) (v:=pointer (some ⟨wb.heap.size,0,none⟩)) rfl (by rfl) rfl ?_
       refine ⟨PM.o _ K_wx.o,?_⟩;simp only[Act.put,List.setIfInBounds_toArray,List.set_cons_zero,List.set_cons_succ];refine wpAnyH_done (by as_aux_lemma=>kernel_rfl) ?_ _;have END:=hid (j3m (F:=[wb.heap.size,wn.heap.size,wc.heap.size]) rfl HF.o HN.o RX.o R4.o CX.o R7.o (CB.o.quiet CX.o) R5.o (((CC.o.quiet CN.o).quiet CB.o).quiet CX.o) (.inr (by have:=Z_wk.o;have:=Z_wc.o;have:=Z_wn.o;have:=Z_wb.o;omega)) (by have:=Z_wk.o;have:=Z_wc.o;have:=Z_wn.o;have:=Z_wb.o;omega) (by have:=Z_wk.o;have:=Z_wc.o;have:=Z_wn.o;have:=Z_wb.o;omega) R6.o ((CN.o.quiet CB.o).quiet CX.o) (.inr (by have:=Z_wk.o;have:=Z_wc.o;have:=Z_wn.o;have:=Z_wb.o;omega)) (by have:=Z_wk.o;have:=Z_wc.o;have:=Z_wn.o;have:=Z_wb.o;omega) (by have:=Z_wk.o;have:=Z_wc.o;have:=Z_wn.o;have:=Z_wb.o;omega) L6.o (by have:=Z_wk.o;have:=Z_wc.o;have:=Z_wn.o;have:=Z_wb.o;omega) (by have:=Z_wk.o;have:=Z_wc.o;have:=Z_wn.o;have:=Z_wb.o;omega))
       have NW:Box (∀ x,x∈[wb.heap.size,wn.heap.size,wc.heap.size]→w.heap.size≤x):=hid (by
        have h0:=K_wd.o.size;intro x hx;simp only[List.mem_cons,List.not_mem_nil,or_false] at hx;rcases hx with rfl | rfl | rfl
        ·have:=Z_wk.o;have:=Z_wc.o;have:=Z_wn.o;have:=Z_wb.o;omega
        ·have:=Z_wk.o;have:=Z_wc.o;have:=Z_wn.o;have:=Z_wb.o;omega
        ·have:=Z_wk.o;have:=Z_wc.o;have:=Z_wn.o;have:=Z_wb.o;omega)
       clear RX R4 R7 R5 R6 L6 CD;go_wp2_with fail;go_ret;exact ⟨_,_,_,_,_,_,_,_,_,rfl,END.o,K_wx.o,NW.o⟩
     ·as_aux_lemma=>
       refine zfM (i:=11) rfl (by rfl) (esbs HFC.o rfl rfl) ?_;have CB:Box (zc [] wc (wc.alloc (.cells FC 114))):=hid (zc.alloc [] _ _);have R4:Box (znG (wc.alloc (.cells FC 114)) (.slice (some ⟨wc.heap.size,0,none⟩) 1 1) [fr0 f]):=hid (by rw[HFC.o];exact j3b wc f);have K_wb:Box (zc [] w (wc.alloc (.cells FC 114))):=hid (K_wc.o.quiet CB.o);have Z_wb:Box ((wc.alloc (.cells FC 114)).heap.size=wc.heap.size+1):=hid (by simp);refine ⟨PM.o _ K_wb.o,?_⟩;simp only[Act.put,List.setIfInBounds_toArray,List.set_cons_zero,List.set_cons_succ];generalize wc.alloc (.cells FC 114)=wb at *;refine j22 (i:=4) (by as_aux_lemma=>kernel_rfl) ?_;refine zcC (i:=4) (d:=12) rfl rfl (by rfl) 56 #[] (j3r rfl rfl (j3u _)) (R:=fun v w'=>v=pointer (some ⟨wb.heap.size,0,none⟩)∧Hp w' wb.heap.size [] [wb.heap.size]∧zc [] wb w') ((j0v wb).mono fun e w' ⟨h1,h2,h3⟩=>⟨_,h1,rfl,h2,h3⟩) ?_;rintro v wn ⟨rfl,r7,k7⟩;have R7:=hid r7;have CN:=hid k7;have K_wn:=hid (K_wb.o.quiet k7);have Z_wn:=hid (And.intro k7.size (r7.lt _ (List.mem_singleton.2 rfl)));clear r7 k7;refine ⟨PM.o _ K_wn.o,?_⟩;simp only[Act.put,List.setIfInBounds_toArray,List.set_cons_zero,List.set_cons_succ];refine j22 (i:=12) (by as_aux_lemma=>kernel_rfl) ?_;refine zfM (i:=12) rfl (by rfl) (j3q rfl rfl rfl rfl rfl) ?_;refine ⟨PM.o _ K_wn.o,?_⟩;simp only[Act.put,List.setIfInBounds_toArray,List.set_cons_zero,List.set_cons_succ];refine j22 (i:=13) (by as_aux_lemma=>kernel_rfl) ?_;refine zfM (i:=13) rfl (by rfl) (ebox rfl rfl) ?_;have CX:Box (zc [] wn (wn.alloc (.cells #[pointer (some ⟨q,0,none⟩),.slice a6 n c6,pointer (some ⟨wb.heap.size,0,none⟩),.slice none 0 0,.slice (some ⟨wc.heap.size,0,none⟩) 1 1,.bool false,int i64 0,.bool false,int i64 0,int i64 0,.bool false] 119))):=hid (zc.alloc [] _ _);have RX:Box ((wn.alloc (.cells #[pointer (some ⟨q,0,none⟩),.slice a6 n c6,pointer (some ⟨wb.heap.size,0,none⟩),.slice none 0 0,.slice (some ⟨wc.heap.size,0,none⟩) 1 1,.bool false,int i64 0,.bool false,int i64 0,int i64 0,.bool false] 119)).heap[wn.heap.size]? = some (.cells #[pointer (some ⟨q,0,none⟩),.slice a6 n c6,pointer (some ⟨wb.heap.size,0,none⟩),.slice none 0 0,.slice (some ⟨wc.heap.size,0,none⟩) 1 1,.bool false,int i64 0,.bool false,int i64 0,int i64 0,.bool false] 119 (0,0))):=hid (zh _ _);have K_wx:Box (zc [] w (wn.alloc (.cells #[pointer (some ⟨q,0,none⟩),.slice a6 n c6,pointer (some ⟨wb.heap.size,0,none⟩),.slice none 0 0,.slice (some ⟨wc.heap.size,0,none⟩) 1 1,.bool false,int i64 0,.bool false,int i64 0,int i64 0,.bool false] 119))):=hid (K_wn.o.quiet CX.o);refine ⟨PM.o _ K_wx.o,?_⟩;simp only[Act.put,List.setIfInBounds_toArray,List.set_cons_zero,List.set_cons_succ];generalize wn.alloc (.cells #[pointer (some ⟨q,0,none⟩),.slice a6 n c6,pointer (some ⟨wb.heap.size,0,none⟩),.slice none 0 0,.slice (some ⟨wc.heap.size,0,none⟩) 1 1,.bool false,int i64 0,.bool false,int i64 0,int i64 0,.bool false] 119)=wx at *;refine j22 (i:=14) (by as_aux_lemma=>kernel_rfl) ?_;refine zfM (i:=14) (v:=pointer (some ⟨wn.heap.size,0,none⟩)) rfl (by rfl) rfl ?_
       refine ⟨PM.o _ K_wx.o,?_⟩;simp only[Act.put,List.setIfInBounds_toArray,List.set_cons_zero,List.set_cons_succ];refine wpAnyH_done (by as_aux_lemma=>kernel_rfl) ?_ _;have END:=hid (j3m (F:=[wn.heap.size,wc.heap.size,wb.heap.size]) rfl HF.o HN.o RX.o R4.o (CN.o.quiet CX.o) R7.o CX.o R5.o (((CC.o.quiet CB.o).quiet CN.o).quiet CX.o) (.inr (by have:=Z_wk.o;have:=Z_wc.o;have:=Z_wb.o;have:=Z_wn.o;omega)) (by have:=Z_wk.o;have:=Z_wc.o;have:=Z_wb.o;have:=Z_wn.o;omega) (by have:=Z_wk.o;have:=Z_wc.o;have:=Z_wb.o;have:=Z_wn.o;omega) R6.o ((CB.o.quiet CN.o).quiet CX.o) (.inr (by have:=Z_wk.o;have:=Z_wc.o;have:=Z_wb.o;have:=Z_wn.o;omega)) (by have:=Z_wk.o;have:=Z_wc.o;have:=Z_wb.o;have:=Z_wn.o;omega) (by have:=Z_wk.o;have:=Z_wc.o;have:=Z_wb.o;have:=Z_wn.o;omega) L6.o (by have:=Z_wk.o;have:=Z_wc.o;have:=Z_wb.o;have:=Z_wn.o;omega) (by have:=Z_wk.o;have:=Z_wc.o;have:=Z_wb.o;have:=Z_wn.o;omega))
       have NW:Box (∀ x,x∈[wn.heap.size,wc.heap.size,wb.heap.size]→w.heap.size≤x):=hid (by
        have h0:=K_wd.o.size;intro x hx;simp only[List.mem_cons,List.not_mem_nil,or_false] at hx;rcases hx with rfl | rfl | rfl
        ·have:=Z_wk.o;have:=Z_wc.o;have:=Z_wb.o;have:=Z_wn.o;omega
        ·have:=Z_wk.o;have:=Z_wc.o;have:=Z_wb.o;have:=Z_wn.o;omega
        ·have:=Z_wk.o;have:=Z_wc.o;have:=Z_wb.o;have:=Z_wn.o;omega)
       clear RX R4 R7 R5 R6 L6 CD;go_wp2_with fail;go_ret;exact ⟨_,_,_,_,_,_,_,_,_,rfl,END.o,K_wx.o,NW.o⟩
   ·as_aux_lemma=>
     refine zfM (i:=11) rfl (by rfl) (esbs HFC.o rfl rfl) ?_;have CB:Box (zc [] wk (wk.alloc (.cells FC 114))):=hid (zc.alloc [] _ _);have R4:Box (znG (wk.alloc (.cells FC 114)) (.slice (some ⟨wk.heap.size,0,none⟩) 1 1) [fr0 f]):=hid (by rw[HFC.o];exact j3b wk f);have K_wb:Box (zc [] w (wk.alloc (.cells FC 114))):=hid (K_wk.o.quiet CB.o);have Z_wb:Box ((wk.alloc (.cells FC 114)).heap.size=wk.heap.size+1):=hid (by simp);refine ⟨PM.o _ K_wb.o,?_⟩;simp only[Act.put,List.setIfInBounds_toArray,List.set_cons_zero,List.set_cons_succ];generalize wk.alloc (.cells FC 114)=wb at *;refine j22 (i:=3) (by as_aux_lemma=>kernel_rfl) ?_;refine zcC (i:=3) (d:=11) rfl rfl (by rfl) 55 #[.slice a n cp] (j23 rfl rfl rfl (j3t _ _)) (R:=fun v w'=>zkL (zod wb.heap.size w') v l∧zc [] wb w') ((HCO.o wb K_wb.o).mono fun e w' ⟨v,h1,h2,h3⟩=>⟨v,h1,h2,h3⟩) ?_;rintro v wc ⟨r6,k6⟩;obtain ⟨a6,c6,e6,x6,y6,z6⟩:=r6;rw[← HN.o] at e6;subst e6;have R6:=hid x6;have L6:=hid (And.intro y6 z6);have CC:=hid k6;have K_wc:=hid (K_wb.o.quiet k6);have Z_wc:=hid k6.size;clear x6 y6 z6 k6;refine ⟨PM.o _ K_wc.o,?_⟩;simp only[Act.put,List.setIfInBounds_toArray,List.set_cons_zero,List.set_cons_succ];refine j22 (i:=4) (by as_aux_lemma=>kernel_rfl) ?_;refine zcC (i:=4) (d:=12) rfl rfl (by rfl) 56 #[] (j3r rfl rfl (j3u _)) (R:=fun v w'=>v=pointer (some ⟨wc.heap.size,0,none⟩)∧Hp w' wc.heap.size [] [wc.heap.size]∧zc [] wc w') ((j0v wc).mono fun e w' ⟨h1,h2,h3⟩=>⟨_,h1,rfl,h2,h3⟩) ?_;rintro v wn ⟨rfl,r7,k7⟩;have R7:=hid r7;have CN:=hid k7;have K_wn:=hid (K_wc.o.quiet k7);have Z_wn:=hid (And.intro k7.size (r7.lt _ (List.mem_singleton.2 rfl)));clear r7 k7;refine ⟨PM.o _ K_wn.o,?_⟩;simp only[Act.put,List.setIfInBounds_toArray,List.set_cons_zero,List.set_cons_succ];refine j22 (i:=12) (by as_aux_lemma=>kernel_rfl) ?_;refine zfM (i:=12) rfl (by rfl) (j3q rfl rfl rfl rfl rfl) ?_;refine ⟨PM.o _ K_wn.o,?_⟩;simp only[Act.put,List.setIfInBounds_toArray,List.set_cons_zero,List.set_cons_succ];refine j22 (i:=13) (by as_aux_lemma=>kernel_rfl) ?_;refine zfM (i:=13) rfl (by rfl) (ebox rfl rfl) ?_;have CX:Box (zc [] wn (wn.alloc (.cells #[pointer (some ⟨q,0,none⟩),.slice a6 n c6,pointer (some ⟨wc.heap.size,0,none⟩),.slice none 0 0,.slice (some ⟨wk.heap.size,0,none⟩) 1 1,.bool false,int i64 0,.bool false,int i64 0,int i64 0,.bool false] 119))):=hid (zc.alloc [] _ _);have RX:Box ((wn.alloc (.cells #[pointer (some ⟨q,0,none⟩),.slice a6 n c6,pointer (some ⟨wc.heap.size,0,none⟩),.slice none 0 0,.slice (some ⟨wk.heap.size,0,none⟩) 1 1,.bool false,int i64 0,.bool false,int i64 0,int i64 0,.bool false] 119)).heap[wn.heap.size]? = some (.cells #[pointer (some ⟨q,0,none⟩),.slice a6 n c6,pointer (some ⟨wc.heap.size,0,none⟩),.slice none 0 0,.slice (some ⟨wk.heap.size,0,none⟩) 1 1,.bool false,int i64 0,.bool false,int i64 0,int i64 0,.bool false] 119 (0,0))):=hid (zh _ _);have K_wx:Box (zc [] w (wn.alloc (.cells #[pointer (some ⟨q,0,none⟩),.slice a6 n c6,pointer (some ⟨wc.heap.size,0,none⟩),.slice none 0 0,.slice (some ⟨wk.heap.size,0,none⟩) 1 1,.bool false,int i64 0,.bool false,int i64 0,int i64 0,.bool false] 119))):=hid (K_wn.o.quiet CX.o)
     refine ⟨PM.o _ K_wx.o,?_⟩;simp only[Act.put,List.setIfInBounds_toArray,List.set_cons_zero,List.set_cons_succ];generalize wn.alloc (.cells #[pointer (some ⟨q,0,none⟩),.slice a6 n c6,pointer (some ⟨wc.heap.size,0,none⟩),.slice none 0 0,.slice (some ⟨wk.heap.size,0,none⟩) 1 1,.bool false,int i64 0,.bool false,int i64 0,int i64 0,.bool false] 119)=wx at *;refine j22 (i:=14) (by as_aux_lemma=>kernel_rfl) ?_;refine zfM (i:=14) (v:=pointer (some ⟨wn.heap.size,0,none⟩)) rfl (by rfl) rfl ?_;refine ⟨PM.o _ K_wx.o,?_⟩;simp only[Act.put,List.setIfInBounds_toArray,List.set_cons_zero,List.set_cons_succ];refine wpAnyH_done (by as_aux_lemma=>kernel_rfl) ?_ _;have END:=hid (j3m (F:=[wn.heap.size,wk.heap.size,wc.heap.size]) rfl HF.o HN.o RX.o R4.o ((CC.o.quiet CN.o).quiet CX.o) R7.o CX.o R5.o (((CB.o.quiet CC.o).quiet CN.o).quiet CX.o) (.inr (by have:=Z_wk.o;have:=Z_wb.o;have:=Z_wc.o;have:=Z_wn.o;omega)) (by have:=Z_wk.o;have:=Z_wb.o;have:=Z_wc.o;have:=Z_wn.o;omega) (by have:=Z_wk.o;have:=Z_wb.o;have:=Z_wc.o;have:=Z_wn.o;omega) R6.o (CN.o.quiet CX.o) (.inl (by have:=Z_wk.o;have:=Z_wb.o;have:=Z_wc.o;have:=Z_wn.o;omega)) (by have:=Z_wk.o;have:=Z_wb.o;have:=Z_wc.o;have:=Z_wn.o;omega) (by have:=Z_wk.o;have:=Z_wb.o;have:=Z_wc.o;have:=Z_wn.o;omega) L6.o (by have:=Z_wk.o;have:=Z_wb.o;have:=Z_wc.o;have:=Z_wn.o;omega) (by have:=Z_wk.o;have:=Z_wb.o;have:=Z_wc.o;have:=Z_wn.o;omega))
     have NW:Box (∀ x,x∈[wn.heap.size,wk.heap.size,wc.heap.size]→w.heap.size≤x):=hid (by
      have h0:=K_wd.o.size;intro x hx;simp only[List.mem_cons,List.not_mem_nil,or_false] at hx;rcases hx with rfl | rfl | rfl
      ·have:=Z_wk.o;have:=Z_wb.o;have:=Z_wc.o;have:=Z_wn.o;omega
      ·have:=Z_wk.o;have:=Z_wb.o;have:=Z_wc.o;have:=Z_wn.o;omega
      ·have:=Z_wk.o;have:=Z_wb.o;have:=Z_wc.o;have:=Z_wn.o;omega)
     clear RX R4 R7 R5 R6 L6 CD;go_wp2_with fail;go_ret;exact ⟨_,_,_,_,_,_,_,_,_,rfl,END.o,K_wx.o,NW.o⟩
 ·as_aux_lemma=>
   refine zfM (i:=11) rfl (by rfl) (esbs HFC.o rfl rfl) ?_;have CB:Box (zc [] wd (wd.alloc (.cells FC 114))):=hid (zc.alloc [] _ _);have R4:Box (znG (wd.alloc (.cells FC 114)) (.slice (some ⟨wd.heap.size,0,none⟩) 1 1) [fr0 f]):=hid (by rw[HFC.o];exact j3b wd f);have K_wb:Box (zc [] w (wd.alloc (.cells FC 114))):=hid (K_wd.o.quiet CB.o);have Z_wb:Box ((wd.alloc (.cells FC 114)).heap.size=wd.heap.size+1):=hid (by simp);refine ⟨PM.o _ K_wb.o,?_⟩;simp only[Act.put,List.setIfInBounds_toArray,List.set_cons_zero,List.set_cons_succ];generalize wd.alloc (.cells FC 114)=wb at *;refine j22 (i:=1) (by as_aux_lemma=>kernel_rfl) ?_;refine zcC (i:=1) (d:=9) rfl rfl (by rfl) 54 #[pointer (some ⟨pp,0,none⟩)] (j23 rfl rfl rfl (j3s _ _)) (R:=fun v w'=>∃ q,v=pointer (some ⟨q,0,none⟩)∧PrC (zod wb.heap.size w') q 0 (runP P)∧zc [] wb w') ((HKP.o wb K_wb.o).mono fun e w' ⟨q,h1,h2,h3⟩=>⟨_,h1,q,rfl,h2,h3⟩) ?_;rintro v wk ⟨q,rfl,r5,k5⟩;have R5:=hid r5;have CK:=hid k5;have K_wk:=hid (K_wb.o.quiet k5);have Z_wk:=hid k5.size;clear r5 k5;refine ⟨PM.o _ K_wk.o,?_⟩;simp only[Act.put,List.setIfInBounds_toArray,List.set_cons_zero,List.set_cons_succ];refine j22 (i:=3) (by as_aux_lemma=>kernel_rfl) ?_;refine zcC (i:=3) (d:=11) rfl rfl (by rfl) 55 #[.slice a n cp] (j23 rfl rfl rfl (j3t _ _)) (R:=fun v w'=>zkL (zod wk.heap.size w') v l∧zc [] wk w') ((HCO.o wk K_wk.o).mono fun e w' ⟨v,h1,h2,h3⟩=>⟨v,h1,h2,h3⟩) ?_;rintro v wc ⟨r6,k6⟩;obtain ⟨a6,c6,e6,x6,y6,z6⟩:=r6;rw[← HN.o] at e6;subst e6;have R6:=hid x6;have L6:=hid (And.intro y6 z6);have CC:=hid k6;have K_wc:=hid (K_wk.o.quiet k6);have Z_wc:=hid k6.size;clear x6 y6 z6 k6;refine ⟨PM.o _ K_wc.o,?_⟩;simp only[Act.put,List.setIfInBounds_toArray,List.set_cons_zero,List.set_cons_succ];refine j22 (i:=4) (by as_aux_lemma=>kernel_rfl) ?_;refine zcC (i:=4) (d:=12) rfl rfl (by rfl) 56 #[] (j3r rfl rfl (j3u _)) (R:=fun v w'=>v=pointer (some ⟨wc.heap.size,0,none⟩)∧Hp w' wc.heap.size [] [wc.heap.size]∧zc [] wc w') ((j0v wc).mono fun e w' ⟨h1,h2,h3⟩=>⟨_,h1,rfl,h2,h3⟩) ?_;rintro v wn ⟨rfl,r7,k7⟩;have R7:=hid r7;have CN:=hid k7;have K_wn:=hid (K_wc.o.quiet k7);have Z_wn:=hid (And.intro k7.size (r7.lt _ (List.mem_singleton.2 rfl)));clear r7 k7;refine ⟨PM.o _ K_wn.o,?_⟩;simp only[Act.put,List.setIfInBounds_toArray,List.set_cons_zero,List.set_cons_succ];refine j22 (i:=12) (by as_aux_lemma=>kernel_rfl) ?_;refine zfM (i:=12) rfl (by rfl) (j3q rfl rfl rfl rfl rfl) ?_;refine ⟨PM.o _ K_wn.o,?_⟩;simp only[Act.put,List.setIfInBounds_toArray,List.set_cons_zero,List.set_cons_succ];refine j22 (i:=13) (by as_aux_lemma=>kernel_rfl) ?_;refine zfM (i:=13) rfl (by rfl) (ebox rfl rfl) ?_;have CX:Box (zc [] wn (wn.alloc (.cells #[pointer (some ⟨q,0,none⟩),.slice a6 n c6,pointer (some ⟨wc.heap.size,0,none⟩),.slice none 0 0,.slice (some ⟨wd.heap.size,0,none⟩) 1 1,.bool false,int i64 0,.bool false,int i64 0,int i64 0,.bool false] 119))):=hid (zc.alloc [] _ _);have RX:Box ((wn.alloc (.cells #[pointer (some ⟨q,0,none⟩),.slice a6 n c6,pointer (some ⟨wc.heap.size,0,none⟩),.slice none 0 0,.slice (some ⟨wd.heap.size,0,none⟩) 1 1,.bool false,int i64 0,.bool false,int i64 0,int i64 0,.bool false] 119)).heap[wn.heap.size]? = some (.cells #[pointer (some ⟨q,0,none⟩),.slice a6 n c6,pointer (some ⟨wc.heap.size,0,none⟩),.slice none 0 0,.slice (some ⟨wd.heap.size,0,none⟩) 1 1,.bool false,int i64 0,.bool false,int i64 0,int i64 0,.bool false] 119 (0,0))):=hid (zh _ _)
   have K_wx:Box (zc [] w (wn.alloc (.cells #[pointer (some ⟨q,0,none⟩),.slice a6 n c6,pointer (some ⟨wc.heap.size,0,none⟩),.slice none 0 0,.slice (some ⟨wd.heap.size,0,none⟩) 1 1,.bool false,int i64 0,.bool false,int i64 0,int i64 0,.bool false] 119))):=hid (K_wn.o.quiet CX.o);refine ⟨PM.o _ K_wx.o,?_⟩;simp only[Act.put,List.setIfInBounds_toArray,List.set_cons_zero,List.set_cons_succ];generalize wn.alloc (.cells #[pointer (some ⟨q,0,none⟩),.slice a6 n c6,pointer (some ⟨wc.heap.size,0,none⟩),.slice none 0 0,.slice (some ⟨wd.heap.size,0,none⟩) 1 1,.bool false,int i64 0,.bool false,int i64 0,int i64 0,.bool false] 119)=wx at *;refine j22 (i:=14) (by as_aux_lemma=>kernel_rfl) ?_;refine zfM (i:=14) (v:=pointer (some ⟨wn.heap.size,0,none⟩)) rfl (by rfl) rfl ?_;refine ⟨PM.o _ K_wx.o,?_⟩;simp only[Act.put,List.setIfInBounds_toArray,List.set_cons_zero,List.set_cons_succ];refine wpAnyH_done (by as_aux_lemma=>kernel_rfl) ?_ _;have END:=hid (j3m (F:=[wn.heap.size,wd.heap.size,wc.heap.size]) rfl HF.o HN.o RX.o R4.o (((CK.o.quiet CC.o).quiet CN.o).quiet CX.o) R7.o CX.o R5.o ((CC.o.quiet CN.o).quiet CX.o) (.inl (by have:=Z_wb.o;have:=Z_wk.o;have:=Z_wc.o;have:=Z_wn.o;omega)) (by have:=Z_wb.o;have:=Z_wk.o;have:=Z_wc.o;have:=Z_wn.o;omega) (by have:=Z_wb.o;have:=Z_wk.o;have:=Z_wc.o;have:=Z_wn.o;omega) R6.o (CN.o.quiet CX.o) (.inl (by have:=Z_wb.o;have:=Z_wk.o;have:=Z_wc.o;have:=Z_wn.o;omega)) (by have:=Z_wb.o;have:=Z_wk.o;have:=Z_wc.o;have:=Z_wn.o;omega) (by have:=Z_wb.o;have:=Z_wk.o;have:=Z_wc.o;have:=Z_wn.o;omega) L6.o (by have:=Z_wb.o;have:=Z_wk.o;have:=Z_wc.o;have:=Z_wn.o;omega) (by have:=Z_wb.o;have:=Z_wk.o;have:=Z_wc.o;have:=Z_wn.o;omega))
   have NW:Box (∀ x,x∈[wn.heap.size,wd.heap.size,wc.heap.size]→w.heap.size≤x):=hid (by
    have h0:=K_wd.o.size;intro x hx;simp only[List.mem_cons,List.not_mem_nil,or_false] at hx;rcases hx with rfl | rfl | rfl
    ·have:=Z_wb.o;have:=Z_wk.o;have:=Z_wc.o;have:=Z_wn.o;omega
    ·have:=Z_wb.o;have:=Z_wk.o;have:=Z_wc.o;have:=Z_wn.o;omega
    ·have:=Z_wb.o;have:=Z_wk.o;have:=Z_wc.o;have:=Z_wn.o;omega)
   clear RX R4 R7 R5 R6 L6 CD;go_wp2_with fail;go_ret;exact ⟨_,_,_,_,_,_,_,_,_,rfl,END.o,K_wx.o,NW.o⟩
end Go.Proofs.YthflgjkmbakedaaGreatDoor
namespace Go.Proofs.YthflgjkmbakedaaGreatDoor
open Go.RowKit
section
variable {W0 w w':World}{mp pp fg:Nat}{P:Pr8}{m:Ma}{F:List Nat}{hb fc:Nat}{rv:Value}{oa:Option Addr}{oc:Nat}{os:List Ob}{Fh:List Nat}
theorem j3w(P:Pr8)(m:Ma)(x:In8):(zo5 P m x).2.bot=m.bot∧(zo5 P m x).2.top.f=m.top.f∧(zo5 P m x).2.top.b=m.top.b∧(zo5 P m x).2.top.i=m.top.i:=by
 have ite9:∀ {c:Prop} [Decidable c] {a b:Int × Ma},(a.2.bot=m.bot∧a.2.top.f=m.top.f∧a.2.top.b=m.top.b∧a.2.top.i=m.top.i)→(b.2.bot=m.bot∧b.2.top.f=m.top.f∧b.2.top.b=m.top.b∧b.2.top.i=m.top.i)→((if c then a else b).2.bot=m.bot∧(if c then a else b).2.top.f=m.top.f∧(if c then a else b).2.top.b=m.top.b∧(if c then a else b).2.top.i=m.top.i):=by
  intro c _ a b ha hb;split
  ·exact ha
  ·exact hb
 unfold zo5
 repeat' first | exact ⟨rfl,rfl,rfl,rfl⟩ | apply ite9
theorem j3x{x:In8}(h:isCall x=false):(x.op == 12)=false∧(x.op == 13)=false∧(x.op == 14)=false:=by
 unfold isCall at h;simp at h;exact ⟨neb h.1.1,neb h.1.2,neb h.2⟩
end
end Go.Proofs.YthflgjkmbakedaaGreatDoor
namespace Go.Proofs.YthflgjkmbakedaaGreatDoor
open Go.Value (int pointer agg)
open Go.IntKind (i64)
open Go.RowKit
section
variable {W0 w w':World}{mp pp fg:Nat}{P:Pr8}{m:Ma}{F:List Nat}{hb fc:Nat}{rv:Value}{oa:Option Addr}{oc:Nat}{os:List Ob}{Fh:List Nat}
theorem MaS.calm(h:MaS W0 w mp pp fg P m F hb fc rv oa oc os Fh):MaS W0 (((w.setCell ⟨mp,5,none⟩ (.bool false)).setCell ⟨mp,6,none⟩ (int i64 0)).setCell ⟨mp,7,none⟩ (.bool false)) mp pp fg P m.calm F hb fc rv oa oc os Fh:=
 h.bx (((zc.setCell [mp] _ _ _ (List.mem_singleton.2 rfl)).step (zc.setCell [mp] _ _ _ (List.mem_singleton.2 rfl))).step (zc.setCell [mp] _ _ _ (List.mem_singleton.2 rfl))) (heap_setCell_same _ mp 7 _ _ _ (heap_setCell_same _ mp 6 _ _ _ (heap_setCell_same w mp 5 _ _ (.bool false) h.box))) rfl rfl rfl rfl id h.ocap
theorem j3y(h:MaS W0 w mp pp fg P m F hb fc rv oa oc os Fh):Calls Tryz.prog 19 #[pointer (some ⟨mp,0,none⟩)] w fun e w'=>e=.returned (int i64 ((m.bot.length:Int)+1))∧zc [] w w':=by
 have HI:=hid (j05 (zd h.box 0));have H:=hid h;clear h;go_enter Tryz.func19,Tryz.ntmps19;go_wp2_with fail;refine HI.o.mono ?_;rintro e1 w1 ⟨rfl,k1⟩;have M1:=hid (H.o.quiet k1);have K1:=hid k1;have p4:=zd M1.o.box 4;clear HI k1 H;go_wp2_with fail;go_ret;exact ⟨rfl,K1.o⟩
end
end Go.Proofs.YthflgjkmbakedaaGreatDoor
namespace Go.Proofs.YthflgjkmbakedaaGreatDoor
open Go.RowKit
theorem Wff.main{P:Pr8}(h:Wff P):inB P.main P.funcs.length=true:=by
 have hn:=h.names;unfold zB at hn;rw[if_pos (jU h.names)] at hn;cases hf:(List.range P.funcs.length).findSome? (J5 P) with
 | some q=>rw[hf] at hn;cases hn
 | none=>
  rw[hf] at hn;by_cases hm:inB P.main P.funcs.length=true
  ·exact hm
  ·simp only[hm] at hn
   cases hn
end Go.Proofs.YthflgjkmbakedaaGreatDoor
