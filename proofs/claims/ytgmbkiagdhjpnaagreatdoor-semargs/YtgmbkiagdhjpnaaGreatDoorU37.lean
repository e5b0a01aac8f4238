import Derived.Test.YtgmbkiagdhjpnaaGreatDoorUA1
import Derived.Test.YtgmbkiagdhjpnaaGreatDoorU32
import Derived.Test.YtgmbkiagdhjpnaaGreatDoorU36

namespace Go.Proofs.YtgmbkiagdhjpnaaGreatDoor
open Go.RowKit
open Go.Value (int pointer agg)
open Go.IntKind (i64)
set_option maxRecDepth 20000
set_option maxHeartbeats 4000000
variable {F:List Nat}{P:Pr8}{a:Option Addr}{b f i:Nat}{ev:Operand→Value}{oi:Oper}{rc:List Int}{v:Value}{w:World}{x:Operand}
def zkh(F:List Nat)(w:World):World:={ w with heap:=w.heap.mapIdx fun i o=>if i∈F then .cells #[] 0 (0,0) else o }
theorem zaK(F:List Nat)(w:World)(k:Nat):(zkh F w).heap[k]? = (w.heap[k]?).map fun o=>if k∈F then Obj.cells #[] 0 (0,0) else o:=by
 unfold zkh;rw[Array.getElem?_mapIdx]
theorem zf4{k:Nat}(h:k ∉ F):(zkh F w).heap[k]? = w.heap[k]? := by
 rw[zaK];simp[h]
theorem zex{p:Addr}(h:(zkh F w).cell? p=some v):p.block ∉ F∧w.cell? p=some v:=by
 by_cases hb:p.block∈F
 ·exfalso
  unfold World.cell? at h;rw[zaK] at h;cases e:w.heap[p.block]? with
  | none=>rw[e] at h;simp at h
  | some o=>rw[e] at h;simp[hb] at h
 ·refine ⟨hb,?_⟩
  rw[← World.cell?_of_block (w:=w) (zf4 hb)];exact h
theorem zgt{p:Addr}(hb:p.block ∉ F)(h:w.cell? p=some v):(zkh F w).cell? p=some v:=by
 rw[World.cell?_of_block (w:=w) (zf4 hb)];exact h
theorem Sub.hole{B:Nat}{u:World}(k:za [] u w)(h:∀ x,x∈F→x<B∨u.heap.size≤x):Sub (zQ B u) (Go.Proofs.YtgmbkiagdhjpnaaGreatDoor.zkh F w):=fun p v e=>by
 obtain ⟨h1,h2⟩:=Za e;refine zgt (fun hm=> ?_) (zb k h2);have:=block_lt_of_cell h2;rcases h _ hm with h | h <;> omega
theorem Sub.kept9{u:World}(k:za F w u):Sub (Go.Proofs.YtgmbkiagdhjpnaaGreatDoor.zkh F w) u:=fun p v e=>by
 obtain ⟨h1,h2⟩:=zex e;rw[k.cell (block_lt_of_cell h2) h1];exact h2
theorem zad{w9:World}{l:List Int}{n q mp fg hb:Nat}{c B1 B2:Nat}{u1 u2 u3 u4:World}(hF:F=[mp,fg,hb])(hf:P.main=(f:Int))(hn:n=l.length)
  (e5:w9.heap[mp]? = some (.cells #[pointer (some ⟨q,0,none⟩),.slice a n c,pointer (some ⟨hb,0,none⟩),.slice none 0 0,.slice (some ⟨fg,0,none⟩) 1 1,.bool false,int i64 0,.bool false,int i64 0,int i64 0,.bool false] 104 (0,0)))
  (e4:zT u4 (.slice (some ⟨fg,0,none⟩) 1 1) [fr0 f]) (k4:za [] u4 w9) (e3:Hp u3 hb [] [hb]) (k3:za [] u3 w9)
  (e1:PrC (zQ B1 u1) q 0 (zfR P)) (k1:za [] u1 w9) (s1:fg<B1∨u1.heap.size≤fg) (s2:u1.heap.size≤hb) (s3:u1.heap.size≤mp)
  (e2:zq (zQ B2 u2) 1 zI a l) (k2:za [] u2 w9) (t1:fg<B2∨u2.heap.size≤fg) (t2:u2.heap.size≤hb) (t3:u2.heap.size≤mp)
  (hc:l.length≤c∧l.length≤maxLen) (n1:hb≠mp) (n2:hb≠fg):
  MaS (zkh F w9) w9 mp q fg (zfR P) (ma0 P l) F hb 1 (.slice none 0 0) a c [] [hb]:=by
 subst hF hn;have E4:=e4.quiet k4;have E3:=e3.quiet k3;have hm:(ma0 P l).top=fr0 f:=by
  show fr0 P.main.toNat=fr0 f;rw[hf];rfl
 refine ⟨e5,?_,⟨rfl,.inl ⟨rfl,rfl⟩⟩,E3,rfl,by simp,by simp,fun b hb=>by simp[Value.ownBlock] at hb,fun x hx=>by rw[List.mem_singleton.1 hx];simp,fun x hx=> ?_,PrC.sub _ _ _ _ _ (Sub.hole k1 ?_) e1,e2.sub zI.sub (Sub.hole k2 ?_),fun u ku=>Sub.kept9 ku,hc,fun x hx=> ?_⟩
 ·rw[hm]
  exact E4
 ·rw[List.mem_singleton.1 hx]
  exact ⟨n1,n2,by simp[Value.ownBlock]⟩
 ·intro x hx
  simp only[List.mem_cons,List.not_mem_nil,or_false] at hx;rcases hx with rfl | rfl | rfl
  ·exact .inr s3
  ·exact s1
  ·exact .inr s2
 ·intro x hx
  simp only[List.mem_cons,List.not_mem_nil,or_false] at hx;rcases hx with rfl | rfl | rfl
  ·exact .inr t3
  ·exact t1
  ·exact .inr t2
 ·simp only[List.mem_cons,List.not_mem_nil,or_false] at hx
  rcases hx with rfl | rfl | rfl
  ·exact zt e5
  ·exact (E4.own.lt _ rfl).2
  ·exact E3.lt _ (List.mem_singleton.2 rfl)
theorem zmJ{ad:Addr}{y:Operand}(hc:w.cell? ad=some v)(ho:oi.op=.load 3 y)(hy:ev y=.pointer (some ad)):(execOp ev oi).run Tryz.prog w=.ok (.value v) w:=by simp[execOp,ho,hy,go_sem,hc]
theorem zjL(ho:oi.op=.build 46 #[(0,x)])(hx:ev x=int i64 (f:Int)):(execOp ev oi).run Tryz.prog w=.ok (.value (agg #[int i64 (f:Int),int i64 0,int i64 0])) w:=by
 have h:(Instr.build 46 #[(0,int i64 (f:Int))]).run Tryz.prog w=.ok (agg #[int i64 (f:Int),int i64 0,int i64 0]) w:=run_build w _ _ _ (by kernel_rfl);unfold execOp;simp only[ho];simp[hx,h]
theorem zjx{FC:Array Value}(hFC:FC=(frC (fr0 f)).toArray)(ho:oi.op=.build 99 #[(0,x)])(hx:ev x=agg #[int i64 (f:Int),int i64 0,int i64 0]):(execOp ev oi).run Tryz.prog w=.ok (.value (.agg FC)) w:=by
 have h:=zj6 f w;rw[← hFC] at h;unfold execOp;simp only[ho];simp[hx,h]
theorem zlZ{FC:Array Value}(hFC:FC=(frC (fr0 f)).toArray)(ho:oi.op=.buildSlice 100 1 #[(0,x)])(hx:ev x=.agg FC):(execOp ev oi).run Tryz.prog w=.ok (.value (.slice (some ⟨w.heap.size,0,none⟩) 1 1)) (w.alloc (.cells FC 99)):=by
 have h:=zjd f w;rw[← hFC] at h;unfold execOp;simp only[ho];simp[hx,h]
theorem JD{p0 p2:Option Addr}{b:Option Addr}{n c n' c':Nat}{x0 x1 x2 x4:Operand}(ho:oi.op=.build 104 #[(0,x0),(1,x1),(2,x2),(4,x4)])(h0:ev x0=.pointer p0)(h1:ev x1=.slice a n c)(h2:ev x2=.pointer p2)(h4:ev x4=.slice b n' c'):
  (execOp ev oi).run Tryz.prog w=.ok (.value (agg #[.pointer p0,.slice a n c,.pointer p2,.slice none 0 0,.slice b n' c',.bool false,int i64 0,.bool false,int i64 0,int i64 0,.bool false])) w:=by
 have h:=zlp p0 p2 a b n c n' c' w;unfold execOp;simp only[ho];simp[h0,h1,h2,h4,h]
theorem zlQ{cs:Array Value}{T:TypeId}(ho:oi.op=.box T x)(hx:ev x=.agg cs):(execOp ev oi).run Tryz.prog w=.ok (.value (pointer (some ⟨w.heap.size,0,none⟩))) (w.alloc (.cells cs T)):=by
 unfold execOp;simp only[ho,hx,Sem.run_bind,Instr.box,newVar,newRow,run_newObj_alloc,Sem.run_pure,Result.andThen_ok,Value.cells]
theorem jz{P:Program}{ts:Array TypeId}(ho:oi.op=.call { callee:=.value (.func f),args:=#[],argTypes:=ts })(hf:ev (.func f)=.func (.func f) #[] #[])(hc:(callFunc f #[]).run P w=.ok (.enter f #[]) w):(execOp ev oi).run P w=.ok (.enter f #[]) w:=by
 simp[execOp,ho,hf,go_sem,hc]
theorem za2(v:Value)(w:World):(callFunc 46 #[v]).run Tryz.prog w=.ok (.enter 46 #[v]) w:=by go_simp
theorem J0(v:Value)(w:World):(callFunc 47 #[v]).run Tryz.prog w=.ok (.enter 47 #[v]) w:=by go_simp
theorem Zt(w:World):(callFunc 48 #[]).run Tryz.prog w=.ok (.enter 48 #[]) w:=by go_simp
theorem ziK{pp:Nat}{cp:Nat}{l:List Int}(h:PrC w pp 0 P)(hg:zbq w)(hT:jb w)(ok:wfO P=none)(ho:zq w 1 zI a l)(hl:l.length≤1000000)(f:Nat)(hf:P.main=(f:Int))(h1:P.recs.length≤1000)(h2:P.ims.length≤1000)(h3:P.funcs.length≤1000)(r1:∀ r,r∈P.recs→r.length≤1000)(r2:∀ x,x∈P.ims→x.2.2.length≤1000)(r3:∀ f,f∈P.funcs→f.regs.length≤1000∧f.blocks.length≤1000∧∀ y,y∈f.blocks→y.code.length≤1000∧∀ x,x∈y.code→x.args.length≤1000):
  Calls Tryz.prog 20 #[pointer (some ⟨pp,0,none⟩),.slice a l.length cp] w fun e w'=>∃ W0 mp qq fg F hb oa oc Fh,e=.returned (pointer (some ⟨mp,0,none⟩))∧MaS W0 w' mp qq fg (zfR P) (ma0 P l) F hb 1 (.slice none 0 0) oa oc [] Fh∧za [] w w'∧∀ x,x∈F→w.heap.size≤x:=by
 have HW:=hid (Js h hg hT);rw[ok] at HW;have HKP:=hid fun (w':World) (k:za [] w w')=>zgH (PrC.stays _ _ _ _ _ k h) h1 h2 h3 r1 r2 r3;obtain ⟨n,hn⟩:∃ n,n=l.length:=⟨_,rfl⟩;have HCO:=hid fun (w':World) (k:za [] w w')=>zdY (cp:=cp) (ho.quiet zI.stays k) hl;rw[← hn] at HCO ⊢;have PM:=hid fun (w':World) (k:za [] w w')=>(show w'.cell? ⟨pp,5,none⟩=some (int i64 (f:Int)) by rw[← hf];have:=zb k h.c5.1;rwa [Nat.zero_add] at this);have HF:=hid hf;have HN:=hid hn;clear h hg hT ok ho hl hf hn h1 h2 h3 r1 r2 r3;go_enter Tryz.func20,Tryz.ntmps20;go_wp2_with fail;refine HW.o.mono ?_;rintro e w2 ⟨rfl,k2⟩;have K2:=hid k2;clear k2 HW;go_upto_region 3 with fail;have c5:=PM.o w2.drew (K2.o.quiet (za.drew [] w2));obtain ⟨FC,hFC⟩:∃ c,c=(frC (fr0 f)).toArray:=⟨_,rfl⟩;have HFC:=hid hFC;clear hFC;refine wp_region_held_drew (S:=fun w'=>w'.cell? ⟨pp,5,none⟩=some (int i64 (f:Int))) (by kernel_rfl) c5 (fun _=> ?_);have K_wd:Box (za [] w w2.drew):=hid (K2.o.quiet (za.drew [] w2));have CD:=hid c5;clear c5 K2;generalize w2.drew=wd at *;refine zC (i:=0) (d:=8) (v:=pointer (some ⟨pp,0,none⟩)) rfl rfl (by as_aux_lemma=>kernel_rfl) (by as_aux_lemma=>kernel_rfl) (by as_aux_lemma=>kernel_rfl) (fun _ _ _ h=>h) (by rfl) CD.o (fun _ _=>rfl) ?_;simp only[Act.put,sTA,sC0,sCS];refine zC (i:=2) (d:=10) (v:=.slice a n cp) rfl rfl (by as_aux_lemma=>kernel_rfl) (by as_aux_lemma=>kernel_rfl) (by as_aux_lemma=>kernel_rfl) (fun _ _ _ h=>h) (by rfl) CD.o (fun _ _=>rfl) ?_;simp only[Act.put,sTA,sC0,sCS];refine zC (i:=5) (d:=13) (v:=pointer (some ⟨pp,0,none⟩)) rfl rfl (by as_aux_lemma=>kernel_rfl) (by as_aux_lemma=>kernel_rfl) (by as_aux_lemma=>kernel_rfl) (fun _ _ _ h=>h) (by rfl) CD.o (fun _ _=>rfl) ?_;simp only[Act.put,sTA,sC0,sCS];refine zC (i:=6) (d:=14) (v:=pointer (some ⟨pp,0,none⟩)) rfl rfl (by as_aux_lemma=>kernel_rfl) (by as_aux_lemma=>kernel_rfl) (by as_aux_lemma=>kernel_rfl) (fun _ _ _ h=>h) (by rfl) CD.o (fun _ _=>rfl) ?_;simp only[Act.put,sTA,sC0,sCS];refine zC (i:=7) (d:=15) (v:=pointer (some ⟨pp,5,none⟩)) rfl rfl (by as_aux_lemma=>kernel_rfl) (by as_aux_lemma=>kernel_rfl) (by as_aux_lemma=>kernel_rfl) (fun _ _ _ h=>h) (by rfl) CD.o (fun _ _=>rfl) ?_;simp only[Act.put,sTA,sC0,sCS];refine zC (i:=8) (d:=16) (v:=int i64 (f:Int)) rfl rfl (by as_aux_lemma=>kernel_rfl) (by as_aux_lemma=>kernel_rfl) (by as_aux_lemma=>kernel_rfl) (fun _ _ _ h=>h) (by rfl) CD.o (fun _ h9=>zmJ h9 rfl rfl) ?_;simp only[Act.put,sTA,sC0,sCS];refine zC (i:=9) (d:=17) (v:=agg #[int i64 (f:Int),int i64 0,int i64 0]) rfl rfl (by as_aux_lemma=>kernel_rfl) (by as_aux_lemma=>kernel_rfl) (by as_aux_lemma=>kernel_rfl) (fun _ _ _ h=>h) (by rfl) CD.o (fun _ _=>zjL rfl rfl) ?_;simp only[Act.put,sTA,sC0,sCS];refine zC (i:=10) (d:=18) (v:=.agg FC) rfl rfl (by as_aux_lemma=>kernel_rfl) (by as_aux_lemma=>kernel_rfl) (by as_aux_lemma=>kernel_rfl) (fun _ _ _ h=>h) (by rfl) CD.o (fun _ _=>zjx HFC.o rfl rfl) ?_;simp only[Act.put,sTA,sC0,sCS];refine zbU (i:=1) (j:=11) (by as_aux_lemma=>kernel_rfl) ?_ ?_
 ·as_aux_lemma=>
   refine qB (i:=1) (d:=9) rfl rfl (by rfl) 46 #[pointer (some ⟨pp,0,none⟩)] (qM rfl rfl rfl (za2 _ _)) (R:=fun v w'=>∃ q,v=pointer (some ⟨q,0,none⟩)∧PrC (zQ wd.heap.size w') q 0 (zfR P)∧za [] wd w') ((HKP.o wd K_wd.o).mono fun e w' ⟨q,h1,h2,h3⟩=>⟨_,h1,q,rfl,h2,h3⟩) ?_;rintro v wk ⟨q,rfl,r5,k5⟩;have R5:=hid r5;have CK:=hid k5;have K_wk:=hid (K_wd.o.quiet k5);have Z_wk:=hid k5.size;clear r5 k5;refine ⟨PM.o _ K_wk.o,?_⟩;simp only[Act.put,sTA,sC0,sCS];refine zbU (i:=3) (j:=11) (by as_aux_lemma=>kernel_rfl) ?_ ?_
   ·as_aux_lemma=>
     refine qB (i:=3) (d:=11) rfl rfl (by rfl) 47 #[.slice a n cp] (qM rfl rfl rfl (J0 _ _)) (R:=fun v w'=>jO (zQ wk.heap.size w') v l∧za [] wk w') ((HCO.o wk K_wk.o).mono fun e w' ⟨v,h1,h2,h3⟩=>⟨v,h1,h2,h3⟩) ?_;rintro v wc ⟨r6,k6⟩;obtain ⟨a6,c6,e6,x6,y6,z6⟩:=r6;rw[← HN.o] at e6;subst e6;have R6:=hid x6;have L6:=hid (And.intro y6 z6);have CC:=hid k6;have K_wc:=hid (K_wk.o.quiet k6);have Z_wc:=hid k6.size;clear x6 y6 z6 k6;refine ⟨PM.o _ K_wc.o,?_⟩;simp only[Act.put,sTA,sC0,sCS];refine zbU (i:=4) (j:=11) (by as_aux_lemma=>kernel_rfl) ?_ ?_
     ·as_aux_lemma=>
       refine qB (i:=4) (d:=12) rfl rfl (by rfl) 48 #[] (jz rfl rfl (Zt _)) (R:=fun v w'=>v=pointer (some ⟨wc.heap.size,0,none⟩)∧Hp w' wc.heap.size [] [wc.heap.size]∧za [] wc w') ((zci wc).mono fun e w' ⟨h1,h2,h3⟩=>⟨_,h1,rfl,h2,h3⟩) ?_;rintro v wn ⟨rfl,r7,k7⟩;have R7:=hid r7;have CN:=hid k7;have K_wn:=hid (K_wc.o.quiet k7);have Z_wn:=hid (And.intro k7.size (r7.lt _ (List.mem_singleton.2 rfl)));clear r7 k7;refine ⟨PM.o _ K_wn.o,?_⟩;simp only[Act.put,sTA,sC0,sCS];refine zL (i:=11) (by as_aux_lemma=>kernel_rfl) ?_;refine zR (i:=11) rfl (by rfl) (zlZ HFC.o rfl rfl) ?_;have CB:Box (za [] wn (wn.alloc (.cells FC 99))):=hid (za.alloc [] _ _);have R4:Box (zT (wn.alloc (.cells FC 99)) (.slice (some ⟨wn.heap.size,0,none⟩) 1 1) [fr0 f]):=hid (by rw[HFC.o];exact zaG wn f);have K_wb:Box (za [] w (wn.alloc (.cells FC 99))):=hid (K_wn.o.quiet CB.o);have Z_wb:Box ((wn.alloc (.cells FC 99)).heap.size=wn.heap.size+1):=hid (by simp);refine ⟨PM.o _ K_wb.o,?_⟩;simp only[Act.put,sTA,sC0,sCS];generalize wn.alloc (.cells FC 99)=wb at *;refine zL (i:=12) (by as_aux_lemma=>kernel_rfl) ?_;refine zR (i:=12) rfl (by rfl) (JD rfl rfl rfl rfl rfl) ?_;refine ⟨PM.o _ K_wb.o,?_⟩;simp only[Act.put,sTA,sC0,sCS];refine zL (i:=13) (by as_aux_lemma=>kernel_rfl) ?_;refine zR (i:=13) rfl (by rfl) (zlQ rfl rfl) ?_;have CX:Box (za [] wb (wb.alloc (.cells #[pointer (some ⟨q,0,none⟩),.slice a6 n c6,pointer (some ⟨wc.heap.size,0,none⟩),.slice none 0 0,.slice (some ⟨wn.heap.size,0,none⟩) 1 1,.bool false,int i64 0,.bool false,int i64 0,int i64 0,.bool false] 104))):=hid (za.alloc [] _ _);have RX:Box ((wb.alloc (.cells #[pointer (some ⟨q,0,none⟩),.slice a6 n c6,pointer (some ⟨wc.heap.size,0,none⟩),.slice none 0 0,.slice (some ⟨wn.heap.size,0,none⟩) 1 1,.bool false,int i64 0,.bool false,int i64 0,int i64 0,.bool false] 104)).heap[wb.heap.size]? = some (.cells #[pointer (some ⟨q,0,none⟩),.slice a6 n c6,pointer (some ⟨wc.heap.size,0,none⟩),.slice none 0 0,.slice (some ⟨wn.heap.size,0,none⟩) 1 1,.bool false,int i64 0,.bool false,int i64 0,int i64 0,.bool false] 104 (0,0))):=hid (ze _ _);have K_wx:Box (za [] w (wb.alloc (.cells #[pointer (some ⟨q,0,none⟩),.slice a6 n c6,pointer (some ⟨wc.heap.size,0,none⟩),.slice none 0 0,.slice (some ⟨wn.heap.size,0,none⟩) 1 1,.bool false,int i64 0,.bool false,int i64 0,int i64 0,.bool false] 104))):=hid (K_wb.o.quiet CX.o);refine ⟨PM.o _ K_wx.o,?_⟩;simp only[Act.put,sTA,sC0,sCS];generalize wb.alloc (.cells #[pointer (some ⟨q,0,none⟩),.slice a6 n c6,pointer (some ⟨wc.heap.size,0,none⟩),.slice none 0 0,.slice (some ⟨wn.heap.size,0,none⟩) 1 1,.bool false,int i64 0,.bool false,int i64 0,int i64 0,.bool false] 104)=wx at *;refine zL (i:=14) (by as_aux_lemma=>kernel_rfl) ?_;refine zR (i:=14) (v:=pointer (some ⟨wb.heap.size,0,none⟩)) rfl (by rfl) rfl ?_;refine ⟨PM.o _ K_wx.o,?_⟩;simp only[Act.put,sTA,sC0,sCS];refine wpAnyH_done (by as_aux_lemma=>kernel_rfl) ?_ _;have END:=hid (zad (F:=[wb.heap.size,wn.heap.size,wc.heap.size]) rfl HF.o HN.o RX.o R4.o CX.o R7.o (CB.o.quiet CX.o) R5.o (((CC.o.quiet CN.o).quiet CB.o).quiet CX.o) (.inr (by have:=Z_wk.o;have:=Z_wc.o;have:=Z_wn.o;have:=Z_wb.o;omega)) (by have:=Z_wk.o;have:=Z_wc.o;have:=Z_wn.o;have:=Z_wb.o;omega) (by have:=Z_wk.o;have:=Z_wc.o;have:=Z_wn.o;have:=Z_wb.o;omega) R6.o ((CN.o.quiet CB.o).quiet CX.o) (.inr (by have:=Z_wk.o;have:=Z_wc.o;have:=Z_wn.o;have:=Z_wb.o;omega)) (by have:=Z_wk.o;have:=Z_wc.o;have:=Z_wn.o;have:=Z_wb.o;omega) (by have:=Z_wk.o;have:=Z_wc.o;have:=Z_wn.o;have:=Z_wb.o;omega) L6.o (by have:=Z_wk.o;have:=Z_wc.o;have:=Z_wn.o;have:=Z_wb.o;omega) (by have:=Z_wk.o;have:=Z_wc.o;have:=Z_wn.o;have:=Z_wb.o;omega))
       have NW:Box (∀ x,x∈[wb.heap.size,wn.heap.size,wc.heap.size]→w.heap.size≤x):=hid (by
        have h0:=K_wd.o.size;intro x hx;simp only[List.mem_cons,List.not_mem_nil,or_false] at hx;rcases hx with rfl | rfl | rfl
        ·have:=Z_wk.o;have:=Z_wc.o;have:=Z_wn.o;have:=Z_wb.o;omega
        ·have:=Z_wk.o;have:=Z_wc.o;have:=Z_wn.o;have:=Z_wb.o;omega
        ·have:=Z_wk.o;have:=Z_wc.o;have:=Z_wn.o;have:=Z_wb.o;omega)
       clear RX R4 R7 R5 R6 L6 CD;go_wp2_with fail;go_ret;exact ⟨_,_,_,_,_,_,_,_,_,rfl,END.o,K_wx.o,NW.o⟩
     ·as_aux_lemma=>
       refine zR (i:=11) rfl (by rfl) (zlZ HFC.o rfl rfl) ?_;have CB:Box (za [] wc (wc.alloc (.cells FC 99))):=hid (za.alloc [] _ _);have R4:Box (zT (wc.alloc (.cells FC 99)) (.slice (some ⟨wc.heap.size,0,none⟩) 1 1) [fr0 f]):=hid (by rw[HFC.o];exact zaG wc f);have K_wb:Box (za [] w (wc.alloc (.cells FC 99))):=hid (K_wc.o.quiet CB.o);have Z_wb:Box ((wc.alloc (.cells FC 99)).heap.size=wc.heap.size+1):=hid (by simp);refine ⟨PM.o _ K_wb.o,?_⟩;simp only[Act.put,sTA,sC0,sCS];generalize wc.alloc (.cells FC 99)=wb at *;refine zL (i:=4) (by as_aux_lemma=>kernel_rfl) ?_;refine qB (i:=4) (d:=12) rfl rfl (by rfl) 48 #[] (jz rfl rfl (Zt _)) (R:=fun v w'=>v=pointer (some ⟨wb.heap.size,0,none⟩)∧Hp w' wb.heap.size [] [wb.heap.size]∧za [] wb w') ((zci wb).mono fun e w' ⟨h1,h2,h3⟩=>⟨_,h1,rfl,h2,h3⟩) ?_;rintro v wn ⟨rfl,r7,k7⟩;have R7:=hid r7;have CN:=hid k7;have K_wn:=hid (K_wb.o.quiet k7);have Z_wn:=hid (And.intro k7.size (r7.lt _ (List.mem_singleton.2 rfl)));clear r7 k7;refine ⟨PM.o _ K_wn.o,?_⟩;simp only[Act.put,sTA,sC0,sCS];refine zL (i:=12) (by as_aux_lemma=>kernel_rfl) ?_;refine zR (i:=12) rfl (by rfl) (JD rfl rfl rfl rfl rfl) ?_;refine ⟨PM.o _ K_wn.o,?_⟩;simp only[Act.put,sTA,sC0,sCS];refine zL (i:=13) (by as_aux_lemma=>kernel_rfl) ?_;refine zR (i:=13) rfl (by rfl) (zlQ rfl rfl) ?_;have CX:Box (za [] wn (wn.alloc (.cells #[pointer (some ⟨q,0,none⟩),.slice a6 n c6,pointer (some ⟨wb.heap.size,0,none⟩),.slice none 0 0,.slice (some ⟨wc.heap.size,0,none⟩) 1 1,.bool false,int i64 0,.bool false,int i64 0,int i64 0,.bool false] 104))):=hid (za.alloc [] _ _);have RX:Box ((wn.alloc (.cells #[pointer (some ⟨q,0,none⟩),.slice a6 n c6,pointer (some ⟨wb.heap.size,0,none⟩),.slice none 0 0,.slice (some ⟨wc.heap.size,0,none⟩) 1 1,.bool false,int i64 0,.bool false,int i64 0,int i64 0,.bool false] 104)).heap[wn.heap.size]? = some (.cells #[pointer (some ⟨q,0,none⟩),.slice a6 n c6,pointer (some ⟨wb.heap.size,0,none⟩),.slice none 0 0,.slice (some ⟨wc.heap.size,0,none⟩) 1 1,.bool false,int i64 0,.bool false,int i64 0,int i64 0,.bool false] 104 (0,0))):=hid (ze _ _);have K_wx:Box (za [] w (wn.alloc (.cells #[pointer (some ⟨q,0,none⟩),.slice a6 n c6,pointer (some ⟨wb.heap.size,0,none⟩),.slice none 0 0,.slice (some ⟨wc.heap.size,0,none⟩) 1 1,.bool false,int i64 0,.bool false,int i64 0,int i64 0,.bool false] 104))):=hid (K_wn.o.quiet CX.o);refine ⟨PM.o _ K_wx.o,?_⟩;simp only[Act.put,sTA,sC0,sCS];generalize wn.alloc (.cells #[pointer (some ⟨q,0,none⟩),.slice a6 n c6,pointer (some ⟨wb.heap.size,0,none⟩),.slice none 0 0,.slice (some ⟨wc.heap.size,0,none⟩) 1 1,.bool false,int i64 0,.bool false,int i64 0,int i64 0,.bool false] 104)=wx at *;refine zL (i:=14) (by as_aux_lemma=>kernel_rfl) ?_;refine zR (i:=14) (v:=pointer (some ⟨wn.heap.size,0,none⟩)) rfl (by rfl) rfl ?_;refine ⟨PM.o _ K_wx.o,?_⟩;simp only[Act.put,sTA,sC0,sCS];refine wpAnyH_done (by as_aux_lemma=>kernel_rfl) ?_ _;have END:=hid (zad (F:=[wn.heap.size,wc.heap.size,wb.heap.size]) rfl HF.o HN.o RX.o R4.o (CN.o.quiet CX.o) R7.o CX.o R5.o (((CC.o.quiet CB.o).quiet CN.o).quiet CX.o) (.inr (by have:=Z_wk.o;have:=Z_wc.o;have:=Z_wb.o;have:=Z_wn.o;omega)) (by have:=Z_wk.o;have:=Z_wc.o;have:=Z_wb.o;have:=Z_wn.o;omega) (by have:=Z_wk.o;have:=Z_wc.o;have:=Z_wb.o;have:=Z_wn.o;omega) R6.o ((CB.o.quiet CN.o).quiet CX.o) (.inr (by have:=Z_wk.o;have:=Z_wc.o;have:=Z_wb.o;have:=Z_wn.o;omega)) (by have:=Z_wk.o;have:=Z_wc.o;have:=Z_wb.o;have:=Z_wn.o;omega) (by have:=Z_wk.o;have:=Z_wc.o;have:=Z_wb.o;have:=Z_wn.o;omega) L6.o (by have:=Z_wk.o;have:=Z_wc.o;have:=Z_wb.o;have:=Z_wn.o;omega) (by have:=Z_wk.o;have:=Z_wc.o;have:=Z_wb.o;have:=Z_wn.o;omega))
       have NW:Box (∀ x,x∈[wn.heap.size,wc.heap.size,wb.heap.size]→w.heap.size≤x):=hid (by
        have h0:=K_wd.o.size;intro x hx;simp only[List.mem_cons,List.not_mem_nil,or_false] at hx;rcases hx with rfl | rfl | rfl
        ·have:=Z_wk.o;have:=Z_wc.o;have:=Z_wb.o;have:=Z_wn.o;omega
        ·have:=Z_wk.o;have:=Z_wc.o;have:=Z_wb.o;have:=Z_wn.o;omega
        ·have:=Z_wk.o;have:=Z_wc.o;have:=Z_wb.o;have:=Z_wn.o;omega)
       clear RX R4 R7 R5 R6 L6 CD;go_wp2_with fail;go_ret;exact ⟨_,_,_,_,_,_,_,_,_,rfl,END.o,K_wx.o,NW.o⟩
   ·as_aux_lemma=>
     refine zR (i:=11) rfl (by rfl) (zlZ HFC.o rfl rfl) ?_;have CB:Box (za [] wk (wk.alloc (.cells FC 99))):=hid (za.alloc [] _ _);have R4:Box (zT (wk.alloc (.cells FC 99)) (.slice (some ⟨wk.heap.size,0,none⟩) 1 1) [fr0 f]):=hid (by rw[HFC.o];exact zaG wk f);have K_wb:Box (za [] w (wk.alloc (.cells FC 99))):=hid (K_wk.o.quiet CB.o);have Z_wb:Box ((wk.alloc (.cells FC 99)).heap.size=wk.heap.size+1):=hid (by simp);refine ⟨PM.o _ K_wb.o,?_⟩;simp only[Act.put,sTA,sC0,sCS];generalize wk.alloc (.cells FC 99)=wb at *;refine zL (i:=3) (by as_aux_lemma=>kernel_rfl) ?_;refine qB (i:=3) (d:=11) rfl rfl (by rfl) 47 #[.slice a n cp] (qM rfl rfl rfl (J0 _ _)) (R:=fun v w'=>jO (zQ wb.heap.size w') v l∧za [] wb w') ((HCO.o wb K_wb.o).mono fun e w' ⟨v,h1,h2,h3⟩=>⟨v,h1,h2,h3⟩) ?_;rintro v wc ⟨r6,k6⟩;obtain ⟨a6,c6,e6,x6,y6,z6⟩:=r6;rw[← HN.o] at e6;subst e6;have R6:=hid x6;have L6:=hid (And.intro y6 z6);have CC:=hid k6;have K_wc:=hid (K_wb.o.quiet k6);have Z_wc:=hid k6.size;clear x6 y6 z6 k6;refine ⟨PM.o _ K_wc.o,?_⟩;simp only[Act.put,sTA,sC0,sCS];refine zL (i:=4) (by as_aux_lemma=>kernel_rfl) ?_;refine qB (i:=4) (d:=12) rfl rfl (by rfl) 48 #[] (jz rfl rfl (Zt _)) (R:=fun v w'=>v=pointer (some ⟨wc.heap.size,0,none⟩)∧Hp w' wc.heap.size [] [wc.heap.size]∧za [] wc w') ((zci wc).mono fun e w' ⟨h1,h2,h3⟩=>⟨_,h1,rfl,h2,h3⟩) ?_;rintro v wn ⟨rfl,r7,k7⟩;have R7:=hid r7;have CN:=hid k7;have K_wn:=hid (K_wc.o.quiet k7);have Z_wn:=hid (And.intro k7.size (r7.lt _ (List.mem_singleton.2 rfl)));clear r7 k7;refine ⟨PM.o _ K_wn.o,?_⟩;simp only[Act.put,sTA,sC0,sCS];refine zL (i:=12) (by as_aux_lemma=>kernel_rfl) ?_;refine zR (i:=12) rfl (by rfl) (JD rfl rfl rfl rfl rfl) ?_;refine ⟨PM.o _ K_wn.o,?_⟩;simp only[Act.put,sTA,sC0,sCS];refine zL (i:=13) (by as_aux_lemma=>kernel_rfl) ?_;refine zR (i:=13) rfl (by rfl) (zlQ rfl rfl) ?_;have CX:Box (za [] wn (wn.alloc (.cells #[pointer (some ⟨q,0,none⟩),.slice a6 n c6,pointer (some ⟨wc.heap.size,0,none⟩),.slice none 0 0,.slice (some ⟨wk.heap.size,0,none⟩) 1 1,.bool false,int i64 0,.bool false,int i64 0,int i64 0,.bool false] 104))):=hid (za.alloc [] _ _);have RX:Box ((wn.alloc (.cells #[pointer (some ⟨q,0,none⟩),.slice a6 n c6,pointer (some ⟨wc.heap.size,0,none⟩),.slice none 0 0,.slice (some ⟨wk.heap.size,0,none⟩) 1 1,.bool false,int i64 0,.bool false,int i64 0,int i64 0,.bool false] 104)).heap[wn.heap.size]? = some (.cells #[pointer (some ⟨q,0,none⟩),.slice a6 n c6,pointer (some ⟨wc.heap.size,0,none⟩),.slice none 0 0,.slice (some ⟨wk.heap.size,0,none⟩) 1 1,.bool false,int i64 0,.bool false,int i64 0,int i64 0,.bool false] 104 (0,0))):=hid (ze _ _);have K_wx:Box (za [] w (wn.alloc (.cells #[pointer (some ⟨q,0,none⟩),.slice a6 n c6,pointer (some ⟨wc.heap.size,0,none⟩),.slice none 0 0,.slice (some ⟨wk.heap.size,0,none⟩) 1 1,.bool false,int i64 0,.bool false,int i64 0,int i64 0,.bool false] 104))):=hid (K_wn.o.quiet CX.o);refine ⟨PM.o _ K_wx.o,?_⟩;simp only[Act.put,sTA,sC0,sCS];generalize wn.alloc (.cells #[pointer (some ⟨q,0,none⟩),.slice a6 n c6,pointer (some ⟨wc.heap.size,0,none⟩),.slice none 0 0,.slice (some ⟨wk.heap.size,0,none⟩) 1 1,.bool false,int i64 0,.bool false,int i64 0,int i64 0,.bool false] 104)=wx at *
     refine zL (i:=14) (by as_aux_lemma=>kernel_rfl) ?_;refine zR (i:=14) (v:=pointer (some ⟨wn.heap.size,0,none⟩)) rfl (by rfl) rfl ?_;refine ⟨PM.o _ K_wx.o,?_⟩;simp only[Act.put,sTA,sC0,sCS];refine wpAnyH_done (by as_aux_lemma=>kernel_rfl) ?_ _;have END:=hid (zad (F:=[wn.heap.size,wk.heap.size,wc.heap.size]) rfl HF.o HN.o RX.o R4.o ((CC.o.quiet CN.o).quiet CX.o) R7.o CX.o R5.o (((CB.o.quiet CC.o).quiet CN.o).quiet CX.o) (.inr (by have:=Z_wk.o;have:=Z_wb.o;have:=Z_wc.o;have:=Z_wn.o;omega)) (by have:=Z_wk.o;have:=Z_wb.o;have:=Z_wc.o;have:=Z_wn.o;omega) (by have:=Z_wk.o;have:=Z_wb.o;have:=Z_wc.o;have:=Z_wn.o;omega) R6.o (CN.o.quiet CX.o) (.inl (by have:=Z_wk.o;have:=Z_wb.o;have:=Z_wc.o;have:=Z_wn.o;omega)) (by have:=Z_wk.o;have:=Z_wb.o;have:=Z_wc.o;have:=Z_wn.o;omega) (by have:=Z_wk.o;have:=Z_wb.o;have:=Z_wc.o;have:=Z_wn.o;omega) L6.o (by have:=Z_wk.o;have:=Z_wb.o;have:=Z_wc.o;have:=Z_wn.o;omega) (by have:=Z_wk.o;have:=Z_wb.o;have:=Z_wc.o;have:=Z_wn.o;omega))
     have NW:Box (∀ x,x∈[wn.heap.size,wk.heap.size,wc.heap.size]→w.heap.size≤x):=hid (by
      have h0:=K_wd.o.size;intro x hx;simp only[List.mem_cons,List.not_mem_nil,or_false] at hx;rcases hx with rfl | rfl | rfl
      ·have:=Z_wk.o;have:=Z_wb.o;have:=Z_wc.o;have:=Z_wn.o;omega
      ·have:=Z_wk.o;have:=Z_wb.o;have:=Z_wc.o;have:=Z_wn.o;omega
      ·have:=Z_wk.o;have:=Z_wb.o;have:=Z_wc.o;have:=Z_wn.o;omega)
     clear RX R4 R7 R5 R6 L6 CD;go_wp2_with fail;go_ret;exact ⟨_,_,_,_,_,_,_,_,_,rfl,END.o,K_wx.o,NW.o⟩
 ·as_aux_lemma=>
   refine zR (i:=11) rfl (by rfl) (zlZ HFC.o rfl rfl) ?_;have CB:Box (za [] wd (wd.alloc (.cells FC 99))):=hid (za.alloc [] _ _);have R4:Box (zT (wd.alloc (.cells FC 99)) (.slice (some ⟨wd.heap.size,0,none⟩) 1 1) [fr0 f]):=hid (by rw[HFC.o];exact zaG wd f);have K_wb:Box (za [] w (wd.alloc (.cells FC 99))):=hid (K_wd.o.quiet CB.o);have Z_wb:Box ((wd.alloc (.cells FC 99)).heap.size=wd.heap.size+1):=hid (by simp);refine ⟨PM.o _ K_wb.o,?_⟩;simp only[Act.put,sTA,sC0,sCS];generalize wd.alloc (.cells FC 99)=wb at *;refine zL (i:=1) (by as_aux_lemma=>kernel_rfl) ?_;refine qB (i:=1) (d:=9) rfl rfl (by rfl) 46 #[pointer (some ⟨pp,0,none⟩)] (qM rfl rfl rfl (za2 _ _)) (R:=fun v w'=>∃ q,v=pointer (some ⟨q,0,none⟩)∧PrC (zQ wb.heap.size w') q 0 (zfR P)∧za [] wb w') ((HKP.o wb K_wb.o).mono fun e w' ⟨q,h1,h2,h3⟩=>⟨_,h1,q,rfl,h2,h3⟩) ?_;rintro v wk ⟨q,rfl,r5,k5⟩;have R5:=hid r5;have CK:=hid k5;have K_wk:=hid (K_wb.o.quiet k5);have Z_wk:=hid k5.size;clear r5 k5;refine ⟨PM.o _ K_wk.o,?_⟩;simp only[Act.put,sTA,sC0,sCS];refine zL (i:=3) (by as_aux_lemma=>kernel_rfl) ?_;refine qB (i:=3) (d:=11) rfl rfl (by rfl) 47 #[.slice a n cp] (qM rfl rfl rfl (J0 _ _)) (R:=fun v w'=>jO (zQ wk.heap.size w') v l∧za [] wk w') ((HCO.o wk K_wk.o).mono fun e w' ⟨v,h1,h2,h3⟩=>⟨v,h1,h2,h3⟩) ?_;rintro v wc ⟨r6,k6⟩;obtain ⟨a6,c6,e6,x6,y6,z6⟩:=r6;rw[← HN.o] at e6;subst e6;have R6:=hid x6;have L6:=hid (And.intro y6 z6);have CC:=hid k6;have K_wc:=hid (K_wk.o.quiet k6);have Z_wc:=hid k6.size;clear x6 y6 z6 k6;refine ⟨PM.o _ K_wc.o,?_⟩;simp only[Act.put,sTA,sC0,sCS];refine zL (i:=4) (by as_aux_lemma=>kernel_rfl) ?_;refine qB (i:=4) (d:=12) rfl rfl (by rfl) 48 #[] (jz rfl rfl (Zt _)) (R:=fun v w'=>v=pointer (some ⟨wc.heap.size,0,none⟩)∧Hp w' wc.heap.size [] [wc.heap.size]∧za [] wc w') ((zci wc).mono fun e w' ⟨h1,h2,h3⟩=>⟨_,h1,rfl,h2,h3⟩) ?_;rintro v wn ⟨rfl,r7,k7⟩;have R7:=hid r7;have CN:=hid k7;have K_wn:=hid (K_wc.o.quiet k7);have Z_wn:=hid (And.intro k7.size (r7.lt _ (List.mem_singleton.2 rfl)));clear r7 k7;refine ⟨PM.o _ K_wn.o,?_⟩;simp only[Act.put,sTA,sC0,sCS];refine zL (i:=12) (by as_aux_lemma=>kernel_rfl) ?_;refine zR (i:=12) rfl (by rfl) (JD rfl rfl rfl rfl rfl) ?_;refine ⟨PM.o _ K_wn.o,?_⟩;simp only[Act.put,sTA,sC0,sCS];refine zL (i:=13) (by as_aux_lemma=>kernel_rfl) ?_;refine zR (i:=13) rfl (by rfl) (zlQ rfl rfl) ?_;have CX:Box (za [] wn (wn.alloc (.cells #[pointer (some ⟨q,0,none⟩),.slice a6 n c6,pointer (some ⟨wc.heap.size,0,none⟩),.slice none 0 0,.slice (some ⟨wd.heap.size,0,none⟩) 1 1,.bool false,int i64 0,.bool false,int i64 0,int i64 0,.bool false] 104))):=hid (za.alloc [] _ _);have RX:Box ((wn.alloc (.cells #[pointer (some ⟨q,0,none⟩),.slice a6 n c6,pointer (some ⟨wc.heap.size,0,none⟩),.slice none 0 0,.slice (some ⟨wd.heap.size,0,none⟩) 1 1,.bool false,int i64 0,.bool false,int i64 0,int i64 0,.bool false] 104)).heap[wn.heap.size]? = some (.cells #[pointer (some ⟨q,0,none⟩),.slice a6 n c6,pointer (some ⟨wc.heap.size,0,none⟩),.slice none 0 0,.slice (some ⟨wd.heap.size,0,none⟩) 1 1,.bool false,int i64 0,.bool false,int i64 0,int i64 0,.bool false] 104 (0,0))):=hid (ze _ _)
   have K_wx:Box (za [] w (wn.alloc (.cells #[pointer (some ⟨q,0,none⟩),.slice a6 n c6,pointer (some ⟨wc.heap.size,0,none⟩),.slice none 0 0,.slice (some ⟨wd.heap.size,0,none⟩) 1 1,.bool false,int i64 0,.bool false,int i64 0,int i64 0,.bool false] 104))):=hid (K_wn.o.quiet CX.o);refine ⟨PM.o _ K_wx.o,?_⟩;simp only[Act.put,sTA,sC0,sCS];generalize wn.alloc (.cells #[pointer (some ⟨q,0,none⟩),.slice a6 n c6,pointer (some ⟨wc.heap.size,0,none⟩),.slice none 0 0,.slice (some ⟨wd.heap.size,0,none⟩) 1 1,.bool false,int i64 0,.bool false,int i64 0,int i64 0,.bool false] 104)=wx at *;refine zL (i:=14) (by as_aux_lemma=>kernel_rfl) ?_;refine zR (i:=14) (v:=pointer (some ⟨wn.heap.size,0,none⟩)) rfl (by rfl) rfl ?_;refine ⟨PM.o _ K_wx.o,?_⟩;simp only[Act.put,sTA,sC0,sCS];refine wpAnyH_done (by as_aux_lemma=>kernel_rfl) ?_ _;have END:=hid (zad (F:=[wn.heap.size,wd.heap.size,wc.heap.size]) rfl HF.o HN.o RX.o R4.o (((CK.o.quiet CC.o).quiet CN.o).quiet CX.o) R7.o CX.o R5.o ((CC.o.quiet CN.o).quiet CX.o) (.inl (by have:=Z_wb.o;have:=Z_wk.o;have:=Z_wc.o;have:=Z_wn.o;omega)) (by have:=Z_wb.o;have:=Z_wk.o;have:=Z_wc.o;have:=Z_wn.o;omega) (by have:=Z_wb.o;have:=Z_wk.o;have:=Z_wc.o;have:=Z_wn.o;omega) R6.o (CN.o.quiet CX.o) (.inl (by have:=Z_wb.o;have:=Z_wk.o;have:=Z_wc.o;have:=Z_wn.o;omega)) (by have:=Z_wb.o;have:=Z_wk.o;have:=Z_wc.o;have:=Z_wn.o;omega) (by have:=Z_wb.o;have:=Z_wk.o;have:=Z_wc.o;have:=Z_wn.o;omega) L6.o (by have:=Z_wb.o;have:=Z_wk.o;have:=Z_wc.o;have:=Z_wn.o;omega) (by have:=Z_wb.o;have:=Z_wk.o;have:=Z_wc.o;have:=Z_wn.o;omega))
   have NW:Box (∀ x,x∈[wn.heap.size,wd.heap.size,wc.heap.size]→w.heap.size≤x):=hid (by
    have h0:=K_wd.o.size;intro x hx;simp only[List.mem_cons,List.not_mem_nil,or_false] at hx;rcases hx with rfl | rfl | rfl
    ·have:=Z_wb.o;have:=Z_wk.o;have:=Z_wc.o;have:=Z_wn.o;omega
    ·have:=Z_wb.o;have:=Z_wk.o;have:=Z_wc.o;have:=Z_wn.o;omega
    ·have:=Z_wb.o;have:=Z_wk.o;have:=Z_wc.o;have:=Z_wn.o;omega)
   clear RX R4 R7 R5 R6 L6 CD;go_wp2_with fail;go_ret;exact ⟨_,_,_,_,_,_,_,_,_,rfl,END.o,K_wx.o,NW.o⟩
theorem zfg(h:wfO P=none):Qi P=true:=by
 unfold wfO at h;by_cases hb:Qi P=false
 ·rw[if_pos hb] at h
  cases h
 ·exact Bool.not_eq_false _ ▸ hb
theorem zel(h:wfO P=none):zY P=none:=by
 have hb:=zfg h;unfold wfO at h;rw[if_neg (by rw[hb];decide)] at h;cases hn:zY P with
 | none=>rfl
 | some q=>rw[hn] at h;cases h
theorem jw{α:Type}{l:List α}{m:Nat}{g:α→Bool}(h:qA l m g=true){y:α}(hy:y∈l):g y=true:=by
 obtain ⟨k,hk⟩:=List.getElem?_of_mem hy;exact j6 h hk
structure zhY (P:Pr8):Prop where
 h1:P.recs.length≤1000
 h2:P.ims.length≤1000
 h3:P.funcs.length≤1000
 r1:∀ r,r∈P.recs→r.length≤1000
 r2:∀ x,x∈P.ims→x.2.2.length≤1000
 r3:∀ f,f∈P.funcs→f.regs.length≤1000∧f.blocks.length≤1000∧∀ y,y∈f.blocks→y.code.length≤1000∧∀ x,x∈y.code→x.args.length≤1000
theorem zeW(h:Qi P=true):zhY P:=by
 have hf:=ZR h;unfold Qi zio at h;simp only[Bool.and_eq_true] at h;have hr:=h.1.2.1;have hi:=h.1.2.2.2.2.1;refine ⟨Nat.le_trans (qI hr) (by decide),Nat.le_trans (qI hi) (by decide),Nat.le_trans (qI hf) (by decide),fun r hm=> ?_,fun x hm=> ?_,fun f hm=> ?_⟩
 ·have:=jw hr hm
  unfold zhO at this;have:=of_decide_eq_true this;omega
 ·have:=jw hi hm
  unfold imB at this;have:=of_decide_eq_true this;omega
 ·have h1:=jw hf hm
  unfold fnB at h1;simp only[Bool.and_eq_true] at h1;have h2:=of_decide_eq_true h1.1;refine ⟨by omega,Nat.le_trans (qI h1.2.2) (by decide),fun y hy=> ?_⟩;have h3:zfT y=true:=jw h1.2.2 hy;refine ⟨Nat.le_trans (qI h3) (by decide),fun x hx=> ?_⟩;have h4:zfU x=true:=jw h3 hx;unfold zfU at h4;have:=of_decide_eq_true h4;omega
structure Wff (P:Pr8):Prop where
 bnd:Qi P=true
 names:zY P=none
 met:zbd P=true
 chk:zag P (zde P)=none
theorem zfC(h:wfO P=none):Wff P:=by
 have h1:=zfg h;have h2:=zel h;unfold wfO at h;rw[if_neg (by rw[h1];decide),h2] at h;simp only at h;by_cases hm:zbd P=false
 ·rw[if_pos hm] at h
  cases h
 ·rw[if_neg hm] at h
  refine ⟨h1,h2,by simpa using hm,?_⟩;cases hc:zag P (zde P) with
  | none=>rfl
  | some q=>rw[hc] at h;cases h
theorem Wff.short(h:Wff P):zhY P:=zeW h.bnd
theorem Wff.tab(h:Wff P):zio P=true:=by
 have:=h.bnd;unfold Qi at this;rw[Bool.and_eq_true] at this;exact this.1
theorem Wff.fnB(h:Wff P)(hf:f<P.funcs.length):fnB (zf P f)=true:=jw (ZR h.bnd) (List.mem_of_getElem? (jm ⟨0,[],[]⟩ hf))
theorem Wff.regs(h:Wff P)(hf:f<P.funcs.length):(zf P f).regs.length≤16:=by
 have:=h.fnB hf;unfold Go.Proofs.YtgmbkiagdhjpnaaGreatDoor.fnB at this;simp only[Bool.and_eq_true,decide_eq_true_eq] at this;exact this.1
theorem Wff.blks(h:Wff P)(hf:f<P.funcs.length):0<(zf P f).blocks.length:=by
 have:=h.fnB hf;unfold Go.Proofs.YtgmbkiagdhjpnaaGreatDoor.fnB at this;simp only[Bool.and_eq_true,decide_eq_true_eq] at this;exact this.2.1
theorem Wff.start(h:Wff P)(hf:f<P.funcs.length):ZM P f 0 0:=⟨hf,h.blks hf,Nat.zero_le _⟩
theorem Wff.pt(h:Wff P)(hp:ZM P f b i):zc3 P (f,b,i)=true:=by
 have hn:=h.names;unfold zY at hn;rw[if_pos (QM h.names)] at hn;cases hf:(List.range P.funcs.length).findSome? (Jd P) with
 | some q=>rw[hf] at hn;cases hn
 | none=>
  have h1:=List.findSome?_eq_none_iff.1 hf f (List.mem_range.2 hp.1);unfold Jd at h1;rw[if_pos (zdw h.names hp.1)] at h1;have h2:(ptF (zf P f) f (zf P f).blocks.length).find? (fun q=> !zc3 P q)=none:=by
   cases hq:(ptF (zf P f) f (zf P f).blocks.length).find? (fun q=> !zc3 P q) with
   | none=>rfl
   | some q=>rw[hq] at h1;cases h1
  have h3:=List.find?_eq_none.1 h2 (f,b,i) (by
   unfold ptF ptB;rw[List.mem_flatMap];refine ⟨b,List.mem_range.2 hp.2.1,?_⟩;rw[List.mem_map]
   exact ⟨i,List.mem_range.2 (by have:=hp.2.2;omega),rfl⟩)
  simpa using h3
theorem Wff.ins(h:Wff P)(hp:ZM P f b i)(hi:i<(zA (zf P f) b).code.length):jp P (zf P f) (jI (zA (zf P f) b) i)=true:=by
 have:=h.pt hp;unfold zc3 at this
 rwa [if_pos hi] at this
theorem Wff.fin(h:Wff P)(hp:ZM P f b i)(hi:i=(zA (zf P f) b).code.length):qE (zf P f).regs.length (zf P f).blocks.length (zA (zf P f) b).fin (zA (zf P f) b).reg (zA (zf P f) b).to (zA (zf P f) b).els=true:=by
 have:=h.pt hp;unfold zc3 at this
 rwa [if_neg (fun h9=>Nat.ne_of_lt h9 hi)] at this
theorem Wff.chk1(h:Wff P):(∀ f,f<P.funcs.length→Q8 P (zf P f)=true)∧(∀ q,q∈pts P→ptT P (zde P) q=true)∧ZG P=true:=by
 have hc:=h.chk;unfold zag at hc;by_cases ha:(List.range P.funcs.length).all (fun f=>Q8 P (zf P f))=true
 ·rw[if_pos ha] at hc
  cases hq:(pts P).find? (fun q=> !ptT P (zde P) q) with
  | some q=>rw[hq] at hc;cases hc
  | none=>
   rw[hq] at hc;refine ⟨fun f hf=>List.all_eq_true.1 ha f (List.mem_range.2 hf),fun q hm=> ?_,?_⟩
   ·have:=List.find?_eq_none.1 hq q hm
    simpa using this
   ·cases hm:ZG P with
    | true=>rfl
    | false=>rw[hm] at hc;cases hc
 ·rw[if_neg ha] at hc
  cases hc
theorem Wff.fit(h:Wff P)(hp:ZM P f b i)(hi:i<(zA (zf P f) b).code.length):jj P (zf P f) (jI (zA (zf P f) b) i)=true:=by
 have:=h.chk1.2.1 _ (J7.2 hp);unfold ptT at this;rw[if_pos hi] at this;unfold zde at this;rw[Bool.and_eq_true,Bool.and_eq_true] at this;exact this.2.2
theorem Wff.endt(h:Wff P)(hp:ZM P f b i)(hi:i=(zA (zf P f) b).code.length):zah P (zf P f) (zA (zf P f) b)=true:=by
 have:=h.chk1.2.1 _ (J7.2 hp);unfold ptT at this
 rwa [if_neg (fun h9=>Nat.ne_of_lt h9 hi)] at this
theorem qN{s t:Int × Int}:tyE s t=true ↔ s=t:=zkW
def VT(P:Pr8)(rc:List Int)(t:Int × Int)(v:V3):Prop:=
 v.1=0∨v.1=1∨(v.1=2∧∃ (j:Nat) (r:Int),v.2.1=(j:Int)+1∧rc[j]? = some r∧(t=(1,r)∨t.1=3∧Jb P r t.2=true))∨(v.1=3∧t.1=2∧∃ g:Nat,v.2.1=(g:Int)∧g<P.funcs.length∧(zf P g).sig=t.2)
theorem VT.more{t:Int × Int}{v:V3}(h:VT P rc t v)(x:Int):VT P (rc ++ [x]) t v:=by
 rcases h with h | h | ⟨h,j,r,h1,h2,h3⟩ | h
 ·exact .inl h
 ·exact .inr (.inl h)
 ·refine .inr (.inr (.inl ⟨h,j,r,h1,?_,h3⟩))
  rw[List.getElem?_append_left (List.getElem?_eq_some_iff.1 h2).1];exact h2
 ·exact .inr (.inr (.inr h))
theorem VT.zero(P:Pr8)(rc:List Int)(t u:Int × Int):VT P rc t (qX u):=by
 unfold qX;split
 ·exact .inl rfl
 ·exact .inr (.inl rfl)
structure FrT (P:Pr8) (rc:List Int) (y:Fr):Prop where
 pt:ZM P y.f y.b y.i
 len:y.rs.length=16
 val:∀ r:Nat,r<(zf P y.f).regs.length→VT P rc ((zf P y.f).regs.getD r (0,0)) (y.rs.getD r rg0).1
theorem FrT.more{y:Fr}(h:FrT P rc y)(x:Int):FrT P (rc ++ [x]) y:=⟨h.pt,h.len,fun r hr=>(h.val r hr).more x⟩
theorem FrT.get{y:Fr}(h:FrT P rc y){r:Int}(hr:inB r (zf P y.f).regs.length=true):VT P rc (zj (zf P y.f) r) (y.get r):=by
 have h1:=zm.1 hr;unfold zj Fr.get;rw[if_pos hr];exact h.val r.toNat (by omega)
theorem FrT.set{y:Fr}(h:FrT P rc y){r:Int}{v:V3}(hv:VT P rc (zj (zf P y.f) r) v)(hr:inB r (zf P y.f).regs.length=true):FrT P rc (y.set r v):=by
 refine ⟨h.pt,by unfold Fr.set;simpa using h.len,fun k hk=> ?_⟩;have h1:=zm.1 hr;unfold zj at hv;rw[if_pos hr] at hv;unfold Fr.set at hk ⊢;simp only at hk ⊢;by_cases e:r.toNat=k
 ·subst e
  by_cases hl:r.toNat<y.rs.length
  ·rw[List.getD_eq_getElem?_getD (l:=y.rs.set _ _),List.getElem?_set_self hl]
   exact hv
  ·rw[List.set_eq_of_length_le (by omega)]
   exact h.val _ hk
 ·rw[List.getD_eq_getElem?_getD (l:=y.rs.set _ _),List.getElem?_set_ne e, ← List.getD_eq_getElem?_getD]
  exact h.val _ hk
theorem FrT.at{y z:Fr}(h:FrT P rc y)(e:z.rs=y.rs)(ef:z.f=y.f)(hp:ZM P z.f z.b z.i):FrT P rc z:=⟨hp,by rw[e];exact h.len,fun r hr=>by rw[e,ef] at *;exact h.val r hr⟩
def zha(P:Pr8)(y z:Fr):Prop:=y.i<(y.blk P).code.length∧qk (y.ins P)=true∧(QW P (zf P z.f).sig).2=zj (zf P y.f) (y.ins P).dst
def JQ(P:Pr8):List Fr→Fr→Prop
 | [],_=>True
 | y :: l,t=>zha P y ((l ++ [t]).headD t)∧JQ P l t
structure Inv (P:Pr8) (m:Ma):Prop where
 deep:m.bot.length≤59
 top:FrT P m.rc m.top
 bot:∀ y,y∈m.bot→FrT P m.rc y
 link:JQ P m.bot m.top
 n400:m.rc.length≤400
 hl:m.hp.length=m.rc.length
 rcN:∀ r,r∈m.rc→0≤r∧r<(P.recs.length:Int)
 obj:∀ (j:Nat) (o:Ob) (r:Int),m.hp[j]? = some o→m.rc[j]? = some r→∀ (k:Nat) (v:V3),o.vs[k]? = some v→VT P m.rc ((zd3 P r).getD k (0,0)) v
end Go.Proofs.YtgmbkiagdhjpnaaGreatDoor
