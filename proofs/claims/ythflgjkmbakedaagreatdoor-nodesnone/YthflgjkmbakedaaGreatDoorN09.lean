import Derived.Test.YthflgjkmbakedaaGreatDoorN08

namespace Go.Proofs.YthflgjkmbakedaaGreatDoor
open Go.RowKit
open Go.Value (int pointer agg)
open Go.IntKind (i64)
set_option maxRecDepth 20000
set_option maxHeartbeats 8000000
variable {P:Pr8}{W0 w w' wr wy:World}{b b' c i k m n o p pb po s:Nat}{e:Ending}{l:Array Bool}{r:Int}{v:Value}{x:Fu8}
def JH:Value:=.slice none 0 0
theorem zcs(n:Nat)(hn:n≤1000000)(w:World):(Instr.makeSlice 181 (int i64 (n:Int)) (int i64 (n:Int))).run Tryz.prog w=.ok (.slice (some ⟨w.heap.size,0,none⟩) n n) (w.alloc (.cells (madeCells #[JH] n) 36)):=
 run_make_row' (P:=Tryz.prog) 181 36 JH 24 Tryz.underlying181 (by kernel_rfl) rfl .i64 .i64 n (by omega) (by omega) w
theorem zef(w:World)(n base:Nat)(hb:base≤w.heap.size)(hn:n≤maxLen):qb (w.alloc (.cells (madeCells #[JH] n) 36)) base w.heap.size n 36 (fun _=>JH):=by
 refine qb.made (z:=JH) ⟨?_,.inr ⟨w.heap.size,n,_,rfl,hb,heap_alloc_new w _,Nat.le_refl _,hn,?_,?_⟩⟩ rfl
 ·rw[Array.length_toList,size_madeCells]
 ·rw[size_madeCells,Nat.mul_one]
 ·rw[Nat.mul_one]
  exact List.take_of_length_le (by rw[Array.length_toList,size_madeCells];exact Nat.le_refl _)
structure FW (w wr:World) (p n:Nat) (c:Nat→Value) (g:List (List Nat)) (k:Nat):Prop where
 row:qb wr w.heap.size p n 36 c
 own:∀ j,j<k→wr.ownsRow (p+1) 3 1 (c j) (nb g j).length (jB (nb g j))
 keep:za [] w wr
theorem FW.quiet{c:Nat→Value}{g:List (List Nat)}(h:FW w wr p n c g k)(q:za [] wr wy):FW w wy p n c g k:=
 ⟨h.row.kept q (by simp),fun j hj=>zh (h.own j hj) q (fun _ _=>by simp),h.keep.quiet q⟩
theorem FW.put{c:Nat→Value}{g:List (List Nat)}(h:FW w wr p n c g k)(q:za [] wr wy)(hv:zje wr wy v (nb g k)):FW w (wy.setCell ⟨p,k,none⟩ v) p n (fun i=>if i=k then v else c i) g (k+1):=by
 have h2:=h.quiet q;have kk:za [p] wy (wy.setCell ⟨p,k,none⟩ v):=za.setCell _ _ _ _ (by simp);have hp:=h.row.lt;refine ⟨h2.row.put k v,fun j hj=> ?_,h2.keep.fresh kk (fun x hx=>by simp at hx;omega)⟩;by_cases e:j=k
 ·subst e
  rw[if_pos rfl];have hv2:wy.ownsRow (p+1) 3 1 v (nb g j).length (jB (nb g j)):=by
   refine ⟨hv.1,?_⟩;rcases hv.2 with hn | ⟨b,cap,cur,h1,h2,h3⟩
   ·exact .inl hn
   ·exact .inr ⟨b,cap,cur,h1,by omega,h3⟩
  exact zh hv2 kk (fun b hb hx=>by have:=(hv2.lt b hb).1;simp at hx;omega)
 ·rw[if_neg e]
  have:=h2.own j (by omega);exact zh this kk (fun b hb hx=>by have:=(this.lt b hb).1;simp at hx;omega)
theorem FW.kept1{r:Nat}{c:Nat→Value}{g:List (List Nat)}(h:FW w wr p n c g k)(q:za [r] wr wy)(h1:w.heap.size≤r)(h2:r<p):FW w wy p n c g k:=
 ⟨h.row.kept q (by simp;omega),fun j hj=>zh (h.own j hj) q (fun b hb hx=>by have:=((h.own j hj).lt b hb).1;simp at hx;omega),h.keep.fresh q (fun x hx=>by simp at hx;omega)⟩
theorem za9{base:Nat}{l:List Nat}(h:w.ownsRow base 3 1 v l.length (jB l)):∃ a c,v=.slice a l.length c∧JC w w.heap.size a (QM l):=by
 rcases h.2 with ⟨e,h0⟩ | ⟨g,cap,cur,rfl,hb,hg,hr⟩
 ·have:l=[]:=List.eq_nil_of_length_eq_zero h0
  subst this;exact ⟨none,0,e,.inl rfl⟩
 ·refine ⟨_,_,rfl,.inr ⟨g,0,rfl,(Array.getElem?_eq_some_iff.1 hg).1,fun i hi=> ?_⟩⟩
  rw[qw] at hi;rw[Nat.zero_add,h.cellAt i (by omega),ZK];unfold jB;rw[List.getElem?_map,List.getD_eq_getElem?_getD,List.getElem?_eq_getElem hi];rfl
theorem FW.done{c:Nat→Value}{g:List (List Nat)}(h:FW w wr p n c g n)(hn:g.length=n):GAt wr wr.heap.size (some ⟨p,0,none⟩) g:=by
 refine .inr ⟨p,0,rfl,h.row.lt.2,fun j hj=> ?_⟩;rw[qP] at hj;rw[qv,qw,Nat.zero_add,h.row.cell (by omega)];obtain ⟨a,cp,e,hi⟩:=za9 (h.own j (by omega));exact ⟨a,cp,by rw[e],hi⟩
theorem Q4(h:PrC w pb po P){f:Nat}(hf:f<P.funcs.length)(hb:(zf P f).blocks.length≤600):
  Calls Tryz.prog 131 #[pointer (some ⟨pb,po,none⟩),int i64 (f:Int)] w fun e w'=>∃ a,e=.returned (agg #[int i64 ((zr (zf P f)).length:Int),.slice a (zr (zf P f)).length (zr (zf P f)).length])∧GAt w' w'.heap.size a (zr (zf P f))∧za [] w w':=by
 have HW:Box (∀ w,Calls Tryz.prog 199 #[int i64 (f:Int),int i64 (P.funcs.length:Int)] w fun e w'=>e=.returned (.bool true)∧w'=w):=hid fun w=>by
  have:=zO (f:Int) P.funcs.length w;rw[show inB (f:Int) P.funcs.length=true from z6.2 ⟨by omega,by omega⟩] at this;exact this
 obtain ⟨fa,fcp,H⟩:=h.fns;obtain ⟨fb,fo,ba,bcp,rfl,B⟩:=H.at hf;have h4:=H.cell;have h2:=B.cell;have BA:Box (∀ b,b<(zf P f).blocks.length→∃ bb bo,ba=some ⟨bb,bo,none⟩∧BlC w bb (bo+b * 5) (zq (zf P f) b)):=hid fun b hb=>B.at hb;have GN:Box (∀ b,b<(zf P f).blocks.length→nb (zr (zf P f)) b=tgB (zf P f).blocks.length (zq (zf P f) b)):=hid fun b hb=>Qy hb;have GL:=hid (zS (zf P f));rw[zS];clear h H B;generalize hfn:P.funcs.length=N at *;generalize hbn:(zf P f).blocks.length=n at *;generalize zr (zf P f)=g at *;clear hfn hbn;have gf:(f:Int)<(N:Int):=by omega
 have hmk:=zcs n (by omega);have k0:za [] w (w.alloc (.cells #[int i64 0,.slice none 0 0] 195)):=za.alloc _ _ _;have HR:Box (zX (w.alloc (.cells #[int i64 0,.slice none 0 0] 195)) w.heap.size (int i64 0) (.slice none 0 0)):=hid (zX.new _ _ _);have c4:=zb k0 h4;have c2:=zb k0 h2;go_enter Tryz.func131,Tryz.ntmps131;go_upto_region 1 with fail;generalize w.alloc (.cells #[int i64 0,.slice none 0 0] 195)=W at *;go_upto_region 4 with (go_at_call 199;refine (HW.o _).mono ?_;rintro e w3 ⟨rfl,rfl⟩)
 have ka:za [] w3 (w3.alloc (.cells (madeCells #[JH] n) 36)):=za.alloc _ _ _;have kb:za [] (w3.alloc (.cells (madeCells #[JH] n) 36)) ((w3.alloc (.cells (madeCells #[JH] n) 36)).alloc (.cells #[int i64 (n:Int),.slice (some ⟨w3.heap.size,0,none⟩) n n] 195)):=za.alloc _ _ _;have HF:Box (FW w ((w3.alloc (.cells (madeCells #[JH] n) 36)).alloc (.cells #[int i64 (n:Int),.slice (some ⟨w3.heap.size,0,none⟩) n n] 195)) w3.heap.size n (fun _=>JH) g 0):=hid ⟨(zef w3 n w.heap.size k0.size (by unfold maxLen;omega)).kept kb (by simp),fun j hj=>by omega,(k0.quiet ka).quiet kb⟩;have HG:Box (zX ((w3.alloc (.cells (madeCells #[JH] n) 36)).alloc (.cells #[int i64 (n:Int),.slice (some ⟨w3.heap.size,0,none⟩) n n] 195)) (w3.heap.size+1) (int i64 (n:Int)) (.slice (some ⟨w3.heap.size,0,none⟩) n n)):=hid (by have:=zX.new (w3.alloc (.cells (madeCells #[JH] n) 36)) (int i64 (n:Int)) (.slice (some ⟨w3.heap.size,0,none⟩) n n);rw[World.size_alloc] at this;exact this);have HR2:=hid ((HR.o.kept ka (by simp)).kept kb (by simp));have hpp:w.heap.size<w3.heap.size:=HR.o.lt;clear HR ka kb k0 c4 c2 h4 h2 HW;go_upto_region 5 with fail;generalize (w3.alloc (.cells (madeCells #[JH] n) 36)).alloc (.cells #[int i64 (n:Int),.slice (some ⟨w3.heap.size,0,none⟩) n n] 195)=W4 at *;generalize w3.heap.size=p at *;go_wp2_with fail
 go_loopw [37] (fun i wr=>∃ (k:Nat) (c:Nat→Value),k≤n∧i=int i64 (k:Int)∧Box (FW w wr p n c g k)∧Box (zX wr (p+1) (int i64 (n:Int)) (.slice (some ⟨p,0,none⟩) n n))∧Box (zX wr w.heap.size (int i64 0) (.slice none 0 0))) (fun i _=>n - (intOf i).toNat)
 case atStart=>exact ⟨0,_,by omega,rfl,HF,HG,HR2⟩
 case round=>
  clear HF HG HR2;obtain ⟨k,c,hk,rfl,HF,HG,HR⟩:=hrel;by_cases hlt:k<n
  ·have hlt':(k:Int)<(n:Int):=by omega
   obtain ⟨bb,bo,rfl,hbl⟩:=BA.o k hlt;have HT:Box (∀ w',za [] w w'→Calls Tryz.prog 200 #[pointer (some ⟨bb,bo+k * 5,none⟩),int i64 (n:Int)] w' fun e w''=>∃ a cp,e=.returned (.slice a (nb g k).length cp)∧zje w' w'' (.slice a (nb g k).length cp) (nb g k)∧za [] w' w''):=hid fun w' kw=>by
    rw[GN.o k hlt];refine (zar (BlC.stays _ _ _ _ _ kw hbl) n).mono ?_;rintro e w'' ⟨v,rfl,hv,hq⟩;obtain ⟨a,cp,rfl,_⟩:=za9 hv;exact ⟨a,cp,rfl,hv,hq⟩
   have c1:=HG.o.c1;have fz:=HF.o.row.frozen k;have cz:=HF.o.row.cell hlt;clear hbl;go_wp2_with fail
   go_region_with (go_at_call 200;refine (HT.o _ (HF.o.keep.quiet (za.drewN [] _ _))).mono ?_;rintro e w5 ⟨a5,p5,rfl,hv,k5⟩;have c1':=zb k5 c1;have cz':=zb k5 cz;have fz':=((HF.o.row.kept (za.drewN [] _ _) (by simp)).kept k5 (by simp)).frozen k)
   all_goals
    have HF2:=hid ((HF.o.quiet (za.drewN [] _ _)).put k5 hv);have kp:za [p] w5 (w5.setCell ⟨p,k,none⟩ (.slice a5 (nb g k).length p5)):=za.setCell _ _ _ _ (by simp);have HG2:=hid (((HG.o.kept (za.drewN [] _ _) (by simp)).kept k5 (by simp)).kept kp (by simp));have HR2:=hid (((HR.o.kept (za.drewN [] _ _) (by simp)).kept k5 (by simp)).kept kp (by simp;omega));clear HF HG HR c1 fz cz c1' fz' cz' hv k5 HT;generalize w5.setCell ⟨p,k,none⟩ (.slice a5 (nb g k).length p5)=w6 at *;go_wp2_with fail;go_roundw
    case rel=>exact ⟨k+1,_,by omega,by go_num,HF2,HG2,HR2⟩
    case measure=>simp[intOf];omega
  ·obtain rfl:k=n:=by omega
   have c0:=HG.o.c0;have c1:=HG.o.c1;have r0:=HR.o.c0;have r1:=HR.o.c1;have z0:=HR.o.frozen 0;have z1:=HR.o.frozen 1;go_wp2_with fail;have k1:za [w.heap.size] wr (wr.setCell ⟨w.heap.size,0,none⟩ (int i64 (k:Int))):=za.setCell _ _ _ _ (by simp);have k2:za [w.heap.size] (wr.setCell ⟨w.heap.size,0,none⟩ (int i64 (k:Int))) ((wr.setCell ⟨w.heap.size,0,none⟩ (int i64 (k:Int))).setCell ⟨w.heap.size,1,none⟩ (.slice (some ⟨p,0,none⟩) k k)):=za.setCell _ _ _ _ (by simp);have HF2:=HF.o.kept1 (k1.step k2) (Nat.le_refl _) hpp;have hb2:zX ((wr.setCell ⟨w.heap.size,0,none⟩ (int i64 (k:Int))).setCell ⟨w.heap.size,1,none⟩ (.slice (some ⟨p,0,none⟩) k k)) w.heap.size (int i64 (k:Int)) (.slice (some ⟨p,0,none⟩) k k):=by
    have h1:=heap_setCell_same wr w.heap.size 0 _ _ (int i64 (k:Int)) HR.o.heap;have h2:=heap_setCell_same _ w.heap.size 1 _ _ (.slice (some ⟨p,0,none⟩) k k) h1;exact ⟨h2⟩
   have hd0:=hb2.c0;have hd1:=hb2.c1;generalize (wr.setCell ⟨w.heap.size,0,none⟩ (int i64 (k:Int))).setCell ⟨w.heap.size,1,none⟩ (.slice (some ⟨p,0,none⟩) k k)=w9 at hd0 hd1 HF2 ⊢;exact bodyPost_ret (v:=agg #[int i64 (k:Int),.slice (some ⟨p,0,none⟩) k k]) (by simp[results,Tryz.results131,go_sem,hd0,hd1]) rfl ⟨_,rfl,HF2.done GL.o,HF2.keep⟩
theorem zb5{y:In8}(h:InV w v y):Calls Tryz.prog 254 #[v] w' fun e w2=>e=.returned (.bool (zei y))∧za [] w' w2:=by
 obtain ⟨a,cp,rfl,_⟩:=h;have hd:(decide ((y.args.length:Int)≤4))=zei y:=by
  show _=decide _
  congr 1
  exact propext ⟨fun h=>by omega,fun h=>by omega⟩
 have HD:=hid hd;clear hd;generalize zei y=res at *;generalize y.args.length=n at *;go_enter Tryz.func254,Tryz.ntmps254;go_wp2;go_ret;exact ⟨by first | (rw[← HD.o];rfl) | (rw[← HD.o];simp),by first | exact za.refl _ _ | exact za.alloc _ _ _⟩
theorem zeM{y:List (Int × Int)}(h:zeh w v y):Calls Tryz.prog 179 #[v] w' fun e w2=>e=.returned (.bool (zge y))∧za [] w' w2:=by
 obtain ⟨a,cp,rfl,_⟩:=h;have hd:(decide ((y.length:Int)≤4))=zge y:=by
  show _=decide _
  congr 1
  exact propext ⟨fun h=>by omega,fun h=>by omega⟩
 have HD:=hid hd;clear hd;generalize zge y=res at *;generalize y.length=n at *;go_enter Tryz.func179,Tryz.ntmps179;go_wp2;go_ret;exact ⟨by first | (rw[← HD.o];rfl) | (rw[← HD.o];simp),by first | exact za.refl _ _ | exact za.alloc _ _ _⟩
theorem zeL{y:(List (Int × Int) × Int × Int)}(h:SgV w v y):Calls Tryz.prog 181 #[v] w' fun e w2=>e=.returned (.bool (zg7 y))∧za [] w' w2:=by
 obtain ⟨a,cp,rfl,_⟩:=h;have hd:(decide ((y.1.length:Int)≤4))=zg7 y:=by
  show _=decide _
  congr 1
  exact propext ⟨fun h=>by omega,fun h=>by omega⟩
 have HD:=hid hd;clear hd;generalize zg7 y=res at *;generalize y.1.length=n at *;go_enter Tryz.func181,Tryz.ntmps181;go_wp2;go_ret;exact ⟨by first | (rw[← HD.o];rfl) | (rw[← HD.o];simp),by first | exact za.refl _ _ | exact za.alloc _ _ _⟩
theorem zbm{y:List Int}(h:IfV w v y):Calls Tryz.prog 183 #[v] w' fun e w2=>e=.returned (.bool (ifB y))∧za [] w' w2:=by
 obtain ⟨a,cp,rfl,_⟩:=h;have hd:(decide ((y.length:Int)≤3))=ifB y:=by
  show _=decide _
  congr 1
  exact propext ⟨fun h=>by omega,fun h=>by omega⟩
 have HD:=hid hd;clear hd;generalize ifB y=res at *;generalize y.length=n at *;go_enter Tryz.func183,Tryz.ntmps183;go_wp2;go_ret;exact ⟨by first | (rw[← HD.o];rfl) | (rw[← HD.o];simp),by first | exact za.refl _ _ | exact za.alloc _ _ _⟩
theorem zcD{y:(Int × Int × List Int)}(h:ImV w v y):Calls Tryz.prog 185 #[v] w' fun e w2=>e=.returned (.bool (imB y))∧za [] w' w2:=by
 obtain ⟨a,cp,rfl,_⟩:=h;have hd:(decide ((y.2.2.length:Int)≤3))=imB y:=by
  show _=decide _
  congr 1
  exact propext ⟨fun h=>by omega,fun h=>by omega⟩
 have HD:=hid hd;clear hd;generalize imB y=res at *;generalize y.2.2.length=n at *;go_enter Tryz.func185,Tryz.ntmps185;go_wp2;go_ret;exact ⟨by first | (rw[← HD.o];rfl) | (rw[← HD.o];simp),by first | exact za.refl _ _ | exact za.alloc _ _ _⟩
theorem SlV.keeps{α:Type}{R:World→Nat→Nat→α→Prop}{l:List α}(hR:jL R)(h:SlV c R w v l)(k:za [] w w'):SlV c R w' v l:=by
 obtain ⟨a,cp,h1,h2,h3⟩:=h;exact ⟨a,cp,h1,h2.quiet hR k,h3⟩
theorem zbz{y:Bl8}(hk:za [] w w')(h:BlV w v y):Calls Tryz.prog 235 #[v] w' fun e w2=>e=.returned (.bool (zej y))∧za [] w' w2:=by
 obtain ⟨a,cp,rfl,hc,h1,h2,h3,h4⟩:=h;have ka:=za.alloc [] w' (.cells #[.slice a y.code.length cp,int i64 y.fin,int i64 y.reg,int i64 y.to,int i64 y.els] 57);have HC:=hid (zb9 (hc.keeps InC.stays (hk.quiet ka)) 30 zei (by omega) fun w3 v z _ hv=>zb5 hv);have HK:=hid ka;clear hc ka hk;go_enter Tryz.func235,Tryz.ntmps235;go_wp2_with fail;refine HC.o.mono ?_;rintro e w3 ⟨rfl,k3⟩;have K3:=hid (HK.o.quiet k3);clear k3;have HB:Box (qk y.code 30 zei=zej y):=hid rfl;rw[HB.o];go_wp2_with fail;go_ret;exact ⟨rfl,K3.o⟩
theorem zcF{y:Fu8}(hk:za [] w w')(h:FuV w v y):Calls Tryz.prog 187 #[v] w' fun e w2=>e=.returned (.bool (fnB y))∧za [] w' w2:=by
 obtain ⟨a,cp,a',cp',rfl,h1,h2,h3⟩:=h;have ka:=za.alloc [] w' (.cells #[int i64 y.sig,.slice a y.regs.length cp,.slice a' y.blocks.length cp'] 50);have HC:=hid (zbV (h3.keeps BlC.stays (hk.quiet ka)) 12 zej (by omega) fun w3 v z k hv=>zbz k hv);have HK:=hid ka;have HE:Box (fnB y=(decide (y.regs.length≤16) && (decide (0<y.blocks.length) && qk y.blocks 12 zej))):=hid rfl;clear h2 h3 ka hk h1;generalize fnB y=res at *;generalize qk y.blocks 12 zej=r2 at *;generalize y.regs.length=n at *;generalize y.blocks.length=m at *;by_cases g1:n≤16
 ·have g1':(n:Int)≤16:=by omega
  by_cases g2:0<m
  ·have g2':(0:Int)<(m:Int):=by omega
   have HR:Box (res=r2):=hid (by rw[HE.o];simp[g1,g2]);clear HE;go_enter Tryz.func187,Tryz.ntmps187;go_wp2_with fail;refine HC.o.mono ?_;rintro e w3 ⟨rfl,k3⟩;have K3:=hid (HK.o.quiet k3);clear k3;go_wp2_with fail;go_ret;exact ⟨by rw[HR.o];rfl,K3.o⟩
  ·have g2':¬ (0:Int)<(m:Int):=by omega
   have HR:Box (res=false):=hid (by rw[HE.o];simp[g2]);clear HE;go_enter Tryz.func187,Tryz.ntmps187;go_wp2_with fail;go_ret;exact ⟨by rw[HR.o];rfl,HK.o⟩
 ·have g1':¬ (n:Int)≤16:=by omega
  have HR:Box (res=false):=hid (by rw[HE.o];simp[g1]);clear HE;go_enter Tryz.func187,Tryz.ntmps187;go_wp2_with fail;go_ret;exact ⟨by rw[HR.o];rfl,HK.o⟩
theorem Zn(h:qk P.funcs 12 fnB=true):zbc P:=by
 have hf:∀ f,f<P.funcs.length→fnB (zf P f)=true:=fun f hf=>qY h (zi hf);have hb:∀ f,f<P.funcs.length→qk (zf P f).blocks 12 zej=true:=fun f h1=>by
  have:=hf f h1;unfold fnB at this;simp only[Bool.and_eq_true] at this;exact this.2.2
 refine ⟨qq h,fun f h1=>qq (hb f h1),fun {f b} h1 h2=> ?_⟩;have h3:=qY (hb f h1) (show (zf P f).blocks[b]? = some (zq (zf P f) b) from zi h2);unfold zej at h3;exact qq h3
theorem zag(h:PrC w pb po P):Calls Tryz.prog 119 #[pointer (some ⟨pb,po,none⟩)] w fun e w'=>e=.returned (.bool (Z7 P))∧za [] w w':=by
 have HP:=hid h;obtain ⟨a0,p0,c0,v0⟩:=SlC.val h.c0;have C0:Box (∀ w',za [] w w'→w'.cell? ⟨pb,po,none⟩=some (.slice a0 P.recs.length p0)):=hid fun w' k=>zb k c0;have H0:=hid fun (w':World) (k:za [] w w')=>zeJ (v0.keeps (SlC.stays TyC.stays) k) 6 zge (by omega) fun w3 v z kk hv=>zeM hv;obtain ⟨a1,p1,c1,v1⟩:=SlC.val h.c1;have C1:Box (∀ w',za [] w w'→w'.cell? ⟨pb,po+1,none⟩=some (.slice a1 P.sigs.length p1)):=hid fun w' k=>zb k c1;have H1:=hid fun (w':World) (k:za [] w w')=>zeu (v1.keeps (SgC.stays) k) 10 zg7 (by omega) fun w3 v z kk hv=>zeL hv;obtain ⟨a2,p2,c2,v2⟩:=SlC.val h.c2;have C2:Box (∀ w',za [] w w'→w'.cell? ⟨pb,po+2,none⟩=some (.slice a2 P.ifs.length p2)):=hid fun w' k=>zb k c2;have H2:=hid fun (w':World) (k:za [] w w')=>zbN (v2.keeps (j7.stays) k) 4 ifB (by omega) fun w3 v z kk hv=>zbm hv;obtain ⟨a3,p3,c3,v3⟩:=SlC.val h.c3;have C3:Box (∀ w',za [] w w'→w'.cell? ⟨pb,po+3,none⟩=some (.slice a3 P.ims.length p3)):=hid fun w' k=>zb k c3;have H3:=hid fun (w':World) (k:za [] w w')=>zcC (v3.keeps (ImC.stays) k) 12 imB (by omega) fun w3 v z kk hv=>zcD hv;obtain ⟨a4,p4,c4,v4⟩:=SlC.val h.c4;have C4:Box (∀ w',za [] w w'→w'.cell? ⟨pb,po+4,none⟩=some (.slice a4 P.funcs.length p4)):=hid fun w' k=>zb k c4;have H4:=hid fun (w':World) (k:za [] w w')=>zeg (v4.keeps (FuC.stays) k) 12 fnB (by omega) fun w3 v z kk hv=>zcF kk hv;have HPT:=hid fun (w':World) (k:za [] w w') (hs:qk P.funcs 12 fnB=true)=>j5 (PrC.stays _ _ _ _ _ k HP.o) (Zn hs);have HST:=hid fun (w':World) (k:za [] w w') (hs:qk P.funcs 12 fnB=true)=>zcu (PrC.stays _ _ _ _ _ k HP.o) (Zn hs);have hNs:=fun (hs:qk P.funcs 12 fnB=true)=>(Zn hs).pts;have hSs:=Jl P (pts P);have HE:Box (Z7 P=(zix P && (decide ((pts P).length≤600) && decide (qH P (pts P)≤40)))):=hid rfl;have HT:Box (zix P=(decide (0<P.funcs.length) && (qk P.recs 6 zge && (qk P.sigs 10 zg7 && (qk P.ifs 4 ifB && (qk P.ims 12 imB && qk P.funcs 12 fnB)))))):=hid rfl;rw[HT.o] at HE;clear h HT HP v0 v1 v2 v3 v4 c0 c1 c2 c3 c4;generalize Z7 P=res at *;generalize qk P.recs 6 zge=r0 at *;generalize qk P.sigs 10 zg7=r1 at *;generalize qk P.ifs 4 ifB=r2 at *;generalize qk P.ims 12 imB=r3 at *;generalize qk P.funcs 12 fnB=r4 at *;generalize hNN:(pts P).length=NN at *;generalize qH P (pts P)=SS at *;generalize P.recs.length=n0 at *;generalize P.sigs.length=n1 at *;generalize P.ifs.length=n2 at *;generalize P.ims.length=n3 at *;generalize P.funcs.length=n4 at *;have d4:=C4.o _ (za.refl _ _);have HNN:=hid hNN;clear hNN;by_cases hpos:0<n4
 case neg=>
  have hpos':¬ (0:Int)<(n4:Int):=by omega
  have HR:Box (res=false):=hid (by rw[HE.o];simp[hpos]);clear HE;go_enter Tryz.func119,Tryz.ntmps119;go_wp2_with fail;go_ret;exact ⟨by rw[HR.o];rfl,za.refl _ _⟩
 have hpos':(0:Int)<(n4:Int):=by omega
 have HE1:Box (res=(r0 && (r1 && (r2 && (r3 && (r4 && (decide (NN≤600) && decide (SS≤40)))))))):=hid (by rw[HE.o];simp[hpos,Bool.and_assoc]);clear HE hpos;have d0:=C0.o _ (za.refl _ _);go_enter Tryz.func119,Tryz.ntmps119;go_wp2_with fail;have K0:=hid (za.refl [] w);refine (H0.o _ K0.o).mono ?_;rintro e w1 ⟨rfl,k1⟩;have K1:=hid (K0.o.quiet k1);clear k1 d0 d4;cases r0
 case false=>
  have HR:Box (res=false):=hid (by rw[HE1.o];simp);clear HE1;go_wp2_with fail;go_ret;exact ⟨by rw[HR.o];rfl,K1.o⟩
 have d1:=C1.o _ K1.o;go_wp2_with fail;refine (H1.o _ K1.o).mono ?_;rintro e w2 ⟨rfl,k2⟩;have K2:=hid (K1.o.quiet k2);clear k2 d1;cases r1
 case false=>
  have HR:Box (res=false):=hid (by rw[HE1.o];simp);clear HE1;go_wp2_with fail;go_ret;exact ⟨by rw[HR.o];rfl,K2.o⟩
 have d2:=C2.o _ K2.o;go_wp2_with fail;refine (H2.o _ K2.o).mono ?_;rintro e w3 ⟨rfl,k3⟩;have K3:=hid (K2.o.quiet k3);clear k3 d2;cases r2
 case false=>
  have HR:Box (res=false):=hid (by rw[HE1.o];simp);clear HE1;go_wp2_with fail;go_ret;exact ⟨by rw[HR.o];rfl,K3.o⟩
 have d3:=C3.o _ K3.o;go_wp2_with fail;refine (H3.o _ K3.o).mono ?_;rintro e w4 ⟨rfl,k4⟩;have K4:=hid (K3.o.quiet k4);clear k4 d3;cases r3
 case false=>
  have HR:Box (res=false):=hid (by rw[HE1.o];simp);clear HE1;go_wp2_with fail;go_ret;exact ⟨by rw[HR.o];rfl,K4.o⟩
 have d4:=C4.o _ K4.o;go_wp2_with fail;refine (H4.o _ K4.o).mono ?_;rintro e w5 ⟨rfl,k5⟩;have K5:=hid (K4.o.quiet k5);clear k5 d4;cases r4
 case false=>
  have HR:Box (res=false):=hid (by rw[HE1.o];simp);clear HE1;go_wp2_with fail;go_ret;exact ⟨by rw[HR.o];rfl,K5.o⟩
 go_wp2_with fail;have hN9:=hNs (by first | trivial | rfl);refine (HPT.o _ K5.o (by first | trivial | rfl)).mono ?_;rintro e w6 ⟨a,cp,rfl,hr,k6⟩;have K6:=hid (K5.o.quiet k6);clear k6 hr hNs;have hN8:(NN:Int)≤4500:=by omega
 have hS8:(SS:Int)≤4500:=by omega
 by_cases hN:NN≤600
 case neg=>
  have hN':¬ (NN:Int)≤600:=by omega
  have HR:Box (res=false):=hid (by rw[HE1.o];simp[hN]);clear HE1 hN;go_wp2_with fail;go_ret;exact ⟨by rw[HR.o];rfl,K6.o⟩
 have hN':(NN:Int)≤600:=by omega
 go_wp2_with fail;refine (HST.o _ K6.o (by first | trivial | rfl)).mono ?_;rintro e w7 ⟨rfl,k7⟩;have K7:=hid (K6.o.quiet k7);clear k7;by_cases hS:SS≤40
 case neg=>
  have hS':decide ((SS:Int)≤40)=false:=decide_eq_false (by omega);have HR:Box (res=false):=hid (by rw[HE1.o];simp[hS]);clear HE1 hS;go_wp2_with fail;go_ret;exact ⟨by rw[HR.o];rfl,K7.o⟩
 have hS':(SS:Int)≤40:=by omega
 have HR:Box (res=true):=hid (by rw[HE1.o];simp[hS,hN]);clear HE1 hS;go_wp2_with fail;go_ret;exact ⟨by rw[HR.o];rfl,K7.o⟩
def Zt(ok:Bool)(y f b i:Int)(w:World)(e:Ending)(w':World):Prop:=if ok then e=.returned .nilIface∧za [] w w' else jt y f b i w e w'
theorem Zt.yes{y f b i:Int}(h:Zt true y f b i w e w'):e=.returned .nilIface∧za [] w w':=h
theorem Zt.no{y f b i:Int}(h:Zt false y f b i w e w'):jt y f b i w e w':=h
theorem zbh(w:World):Calls Tryz.prog 81 #[.pointer none] w (jt 2 (-1) 0 0 w):=by
 have H:=hid (qx 2 w);go_enter Tryz.func81,Tryz.ntmps81;go_wp2_with fail;refine H.o.mono ?_;rintro e w1 ⟨p,rfl,h1,h2⟩;go_wp2_with fail;go_ret;exact ⟨p,rfl,h1,h2⟩
theorem zbW(h:PrC w pb po P):Calls Tryz.prog 81 #[pointer (some ⟨pb,po,none⟩)] w (Zt (Z7 P) 2 (-1) 0 0 w):=by
 have HC:=hid (zag h);have H:=hid fun (w':World)=>qx 2 w';clear h;generalize Z7 P=ok at *;go_enter Tryz.func81,Tryz.ntmps81;go_wp2_with fail;refine HC.o.mono ?_;rintro e w1 ⟨rfl,k1⟩;have K1:=hid k1;clear k1;cases ok with
 | true=>
  go_wp2_with fail;go_ret;exact ⟨rfl,K1.o⟩
 | false=>
  go_wp2_with fail;refine (H.o _).mono ?_;rintro e w2 ⟨p,rfl,h1,h2⟩;go_wp2_with fail;go_ret;exact ⟨p,rfl,h1,K1.o.quiet h2⟩
def zk(x:Fu8)(r:Int):Int × Int:=if inB r x.regs.length then x.regs.getD r.toNat (0,0) else (-1,0)
theorem zg6(h:inB r x.regs.length=true):zk x r=x.regs.getD r.toNat (0,0):=by unfold zk;rw[h];rfl
theorem zeH(h:inB r x.regs.length=false):zk x r=(-1,0):=by unfold zk;rw[h];rfl
theorem zjB{x y:Value}{T:TypeId}(h:w.heap[b]? = some (.cells #[x,y] T (0,0)))(u0 u1:Value):
  ((w.setCell ⟨b,0,none⟩ u0).setCell ⟨b,1,none⟩ u1).heap[b]? = some (.cells #[u0,u1] T (0,0)):=
 heap_setCell_same _ b 1 _ _ u1 (heap_setCell_same w b 0 _ _ u0 h)
theorem Jo(w:World)(b:Nat)(u0 u1:Value):za [b] w ((w.setCell ⟨b,0,none⟩ u0).setCell ⟨b,1,none⟩ u1):=
 (za.setCell [b] _ _ _ (List.mem_singleton.2 rfl)).step (za.setCell [b] _ _ _ (List.mem_singleton.2 rfl))
theorem zn{fb fo:Nat}(h:FuC w fb fo x)(r:Int):Calls Tryz.prog 242 #[pointer (some ⟨fb,fo,none⟩),int i64 r] w fun e w'=>e=.returned (tyV (zk x r))∧za [] w w':=by
 obtain ⟨a,cp,c1,hr,_⟩:=h.c1;have ka:=za.alloc [] w (.cells #[int i64 0,int i64 0] 52);replace c1:=zb ka c1;have hn:=zd w (.cells #[int i64 0,int i64 0] 52);have HW:=hid fun (w:World)=>zo r x.regs.length w;have KA:=hid ka;have HR:=hid hr;have HN:=hid hn;have z0:=zg hn 0;have z1:=zg hn 1;have q0:=zc hn 0;have q1:=zc hn 1;cases hin:inB r x.regs.length with
 | true=>
  have HT:=hid (zg6 hin);rw[hin] at HW;obtain ⟨h0,h1⟩:=z6.1 hin;obtain ⟨b,off,rfl,hc⟩:=HR.o.at (zi (l:=x.regs) (k:=r.toNat) (d:=(0,0)) (by omega));obtain ⟨k,rfl⟩:∃ k:Nat,r=(k:Int):=⟨r.toNat,by omega⟩;have ek:((k:Int)).toNat=k:=by omega
  rw[ek] at hc HT;have d0:=zb ka hc.c0.1;have d1:=zb ka hc.c1.1;generalize x.regs.getD k (0,0)=t at *;generalize zk x (k:Int)=T at *;generalize x.regs.length=n at *;clear h hr ka hn hc hin ek;go_enter Tryz.func242,Tryz.ntmps242;go_wp2_with fail;refine (HW.o _).mono ?_;rintro e w1 ⟨rfl,hw1⟩;rw[hw1];clear hw1;go_wp2_with fail;exact bodyPost_ret (v:=tyV t) (by simp[results,Tryz.results242,go_sem]) rfl ⟨by rw[HT.o],za.alloc _ _ _⟩
 | false=>
  have HT:=hid (zeH hin);rw[hin] at HW;generalize zk x r=T at *;generalize x.regs.length=n at *;clear h hr ka hn hin;go_enter Tryz.func242,Tryz.ntmps242;go_wp2_with fail;refine (HW.o _).mono ?_;rintro e w1 ⟨rfl,hw1⟩;rw[hw1];clear hw1;go_wp2_with fail;exact bodyPost_ret (v:=tyV (-1,0)) (by simp[results,Tryz.results242,go_sem]) rfl ⟨by rw[HT.o],za.alloc _ _ _⟩
theorem SgV.quiet{s:List (Int × Int) × Int × Int}(h:SgV w v s)(k:za [] w w'):SgV w' v s:=by
 obtain ⟨a,cp,h1,h2,h3⟩:=h;exact ⟨a,cp,h1,h2.keeps TyC.stays k,h3⟩
def zM(o:Option (List (Int × Int) × Int × Int))(w0 w:World)(e:Ending)(w':World):Prop:=
 za [] w w'∧match o with
  | some s=>∃ v,e=.returned (.tuple #[v,.bool true])∧SgV w0 v s
  | none=>e=.returned (.tuple #[agg #[.slice none 0 0,int i64 0,int i64 0],.bool false])
def jN(P:Pr8)(n:Int):Option (List (Int × Int) × Int × Int):=if inB n P.sigs.length then some (P.sigs.getD n.toNat ([],0,0)) else none
theorem zgn{n:Int}(h:inB n P.sigs.length=true):jN P n=some (P.sigs.getD n.toNat ([],0,0)):=by unfold jN;rw[h];rfl
theorem zfE{n:Int}(h:inB n P.sigs.length=false):jN P n=none:=by unfold jN;rw[h];rfl
theorem Zo{w0:World}(h:PrC w0 pb po P)(k0:za [] w0 w)(r:Int):Calls Tryz.prog 196 #[pointer (some ⟨pb,po,none⟩),int i64 r] w (zM (jN P r) w0 w):=by
 obtain ⟨a,cp,c1,hr,_⟩:=h.c1;have ka:=za.alloc [] w (.cells #[.slice none 0 0,int i64 0,int i64 0] 59);replace c1:=zb (k0.quiet ka) c1;have hn:=zd w (.cells #[.slice none 0 0,int i64 0,int i64 0] 59);have HW:=hid fun (w:World)=>zo r P.sigs.length w;have KA:=hid ka;have HR:=hid hr;have HN:=hid hn;have z0:=zg hn 0;have z1:=zg hn 1;have z2:=zg hn 2;have q0:=zc hn 0;have q1:=zc hn 1;have q2:=zc hn 2;cases hin:inB r P.sigs.length with
 | true=>
  rw[zgn hin];rw[hin] at HW;obtain ⟨h0,h1⟩:=z6.1 hin;obtain ⟨b,off,rfl,hc⟩:=HR.o.at (zi (l:=P.sigs) (k:=r.toNat) (d:=([],0,0)) (by omega));obtain ⟨k,rfl⟩:∃ k:Nat,r=(k:Int):=⟨r.toNat,by omega⟩;have ek:((k:Int)).toNat=k:=by omega
  rw[ek] at hc ⊢;obtain ⟨ga,gp,g0,q5⟩:=hc.c0.val;have HV:Box (SgV w0 (agg #[.slice ga (P.sigs.getD k ([],0,0)).1.length gp,int i64 (P.sigs.getD k ([],0,0)).2.1,int i64 (P.sigs.getD k ([],0,0)).2.2]) (P.sigs.getD k ([],0,0))):=hid ⟨ga,gp,rfl,q5,hc.c1.2,hc.c2.2⟩;have d0:=zb (k0.quiet ka) g0;have d1:=zb (k0.quiet ka) hc.c1.1;have d2:=zb (k0.quiet ka) hc.c2.1;generalize P.sigs.getD k ([],0,0)=t at *;generalize P.sigs.length=n at *;clear h hr ka k0 hn hc hin ek g0 q5;go_enter Tryz.func196,Tryz.ntmps196;go_wp2_with fail;refine (HW.o _).mono ?_;rintro e w1 ⟨rfl,hw1⟩;rw[hw1];clear hw1;go_wp2_with fail;exact bodyPost_ret (v:=.tuple #[agg #[.slice ga t.1.length gp,int i64 t.2.1,int i64 t.2.2],.bool true]) (by simp[results,Tryz.results196,go_sem]) rfl ⟨za.alloc _ _ _,_,rfl,HV.o⟩
 | false=>
  rw[zfE hin];rw[hin] at HW;generalize P.sigs.length=n at *;clear h hr ka k0 hn hin;go_enter Tryz.func196,Tryz.ntmps196;go_wp2_with fail;refine (HW.o _).mono ?_;rintro e w1 ⟨rfl,hw1⟩;rw[hw1];clear hw1;go_wp2_with fail;exact bodyPost_ret (v:=.tuple #[agg #[.slice none 0 0,int i64 0,int i64 0],.bool false]) (by simp[results,Tryz.results196,go_sem]) rfl ⟨za.alloc _ _ _,rfl⟩
def zY(w:World)(b:Nat)(t:Int × Int):Prop:=w.heap[b]? = some (.cells #[int i64 t.1,int i64 t.2] 52 (0,0))
theorem zY.quiet{t:Int × Int}(h:zY w b t)(k:za [] w w'):zY w' b t:=ze h k
theorem zY.far{t t':Int × Int}(h:zY w b t)(hn:b≠b'):zY ((w.setCell ⟨b',0,none⟩ (int i64 t'.1)).setCell ⟨b',1,none⟩ (int i64 t'.2)) b t:=by
 unfold zY;rw[heap_setCell_other _ _ _ _ hn,heap_setCell_other _ _ _ _ hn];exact h
theorem zY.put{t t':Int × Int}(h:zY w b t):zY ((w.setCell ⟨b,0,none⟩ (int i64 t'.1)).setCell ⟨b,1,none⟩ (int i64 t'.2)) b t':=zjB h _ _
def Q9(W0 w:World)(l:Array Bool)(m s:Nat)(v:Value)(b:Nat)(t:Int × Int):Prop:=
 l.getD m false=true→v=pointer (some ⟨b,0,none⟩)∧W0.heap.size≤b∧zY w b (if l.getD s false then t else (0,0))
structure ziV (W0:World) (fr:Value→Value→Value→Value→Value→Value→Act) (T1 T2 T3:Int × Int) (l:Array Bool) (a:Act) (w:World):Prop where
 size:l.size=18
 kept:za [] W0 w
 ex:∃ v7 v8 v9 v19 v23 v27 b7 b8 b9,a=fr v7 v8 v9 v19 v23 v27∧(l.getD 3 false=true→v19=tyV T1)∧(l.getD 7 false=true→v23=tyV T2)∧(l.getD 11 false=true→v27=tyV T3)∧
  Q9 W0 w l 12 15 v7 b7 T1∧Q9 W0 w l 13 16 v8 b8 T2∧Q9 W0 w l 14 17 v9 b9 T3∧
  (l.getD 12 false=true→l.getD 13 false=true→b7≠b8)∧(l.getD 12 false=true→l.getD 14 false=true→b7≠b9)∧(l.getD 13 false=true→l.getD 14 false=true→b8≠b9)
 nine:∀ i,i∈[0,1,2,4,5,6,8,9,10]→l.getD i true=true
 o7:l.getD 15 false=true→l.getD 12 false=true
 o8:l.getD 16 false=true→l.getD 13 false=true
 o9:l.getD 17 false=true→l.getD 14 false=true
theorem zfx(h:i<l.size):(l.setIfInBounds i true).getD i false=true:=by
 rw[Array.getD_eq_getD_getElem?,Array.getElem?_setIfInBounds_self_of_lt h];rfl
theorem zj{j:Nat}(d:Bool)(h:i≠j):(l.setIfInBounds i true).getD j d=l.getD j d:=getD_set_ne d h
theorem zfR{j:Nat}(i:Nat)(h:l.getD j true=true):(l.setIfInBounds i true).getD j true=true:=by
 by_cases e:i=j
 ·subst e
  rcases Nat.lt_or_ge i l.size with h' | h'
  ·rw[Array.getD_eq_getD_getElem?,Array.getElem?_setIfInBounds_self_of_lt h']
   rfl
  ·rw[Array.getD_eq_getD_getElem?,Array.getElem?_eq_none (by simpa using h')]
   rfl
 ·rw[zj true e]
  exact h
theorem qt(i:Nat)(h:∀ i,i∈[0,1,2,4,5,6,8,9,10]→l.getD i true=true):∀ j,j∈[0,1,2,4,5,6,8,9,10]→(l.setIfInBounds i true).getD j true=true:=fun j hj=>zfR i (h j hj)
theorem zB(i:Nat)(h:l.getD s false=true→l.getD m false=true)(hi:i=s→l.getD m false=true):(l.setIfInBounds i true).getD s false=true→(l.setIfInBounds i true).getD m false=true:=by
 intro hb;apply getD_set_true;by_cases e:i=s
 ·exact hi e
 ·rw[zj false e] at hb
  exact h hb
theorem Q9.quiet{t:Int × Int}(h:Q9 W0 w l m s v b t)(k:za [] w w')(hm:i≠m)(hs:i≠s):Q9 W0 w' (l.setIfInBounds i true) m s v b t:=by
 intro hb;rw[zj false hm] at hb;rw[zj false hs];obtain ⟨h1,h2,h3⟩:=h hb;exact ⟨h1,h2,h3.quiet k⟩
theorem Q9.new{t:Int × Int}(hk:za [] W0 w)(hs:l.getD s false=false)(hne:m≠s):Q9 W0 (w.alloc (.cells #[int i64 0,int i64 0] 52)) (l.setIfInBounds m true) m s (pointer (some ⟨w.heap.size,0,none⟩)) w.heap.size t:=by
 intro _;rw[zj false hne,hs];exact ⟨rfl,hk.size,zd w _⟩
theorem Q9.far{t t':Int × Int}(h:Q9 W0 w l m s v b t)(hn:l.getD m false=true→b≠b')(hm:i≠m)(hs:i≠s):Q9 W0 ((w.setCell ⟨b',0,none⟩ (int i64 t'.1)).setCell ⟨b',1,none⟩ (int i64 t'.2)) (l.setIfInBounds i true) m s v b t:=by
 intro hb;rw[zj false hm] at hb;rw[zj false hs];obtain ⟨h1,h2,h3⟩:=h hb;exact ⟨h1,h2,h3.far (hn hb)⟩
theorem Q9.put{t:Int × Int}(h:Q9 W0 w l m s v b t)(hs:s<l.size)(hne:s≠m):Q9 W0 ((w.setCell ⟨b,0,none⟩ (int i64 t.1)).setCell ⟨b,1,none⟩ (int i64 t.2)) (l.setIfInBounds s true) m s v b t:=by
 intro hb;rw[zj false hne] at hb;rw[zfx hs];obtain ⟨h1,h2,h3⟩:=h hb;exact ⟨h1,h2,h3.put⟩
theorem Q9.lt{t:Int × Int}(h:Q9 W0 w l m s v b t)(hb:l.getD m false=true):b<w.heap.size:=zx (h hb).2.2
theorem Qx(h:l.getD i true=false):l.getD i false=false:=by
 rw[Array.getD_eq_getD_getElem?] at h ⊢;cases e:l[i]? with
 | none=>rw[e] at h;cases h
 | some b=>rw[e] at h;exact h
def zjd(w:World)(b:Nat)(v0:Value)(t1 t2:Int):Prop:=w.heap[b]? = some (.cells #[v0,int i64 t1,int i64 t2] 59 (0,0))
theorem zjd.quiet{v0:Value}{t1 t2:Int}(h:zjd w b v0 t1 t2)(k:za [] w w'):zjd w' b v0 t1 t2:=ze h k
theorem zM.open{o:Option (List (Int × Int) × Int × Int)}{w0:World}(h:zM o w0 w e w'):za [] w w'∧∃ a cp n t1 t2,e=.returned (.tuple #[agg #[.slice a n cp,int i64 t1,int i64 t2],.bool o.isSome])∧(∀ s,o=some s→n=s.1.length∧t1=s.2.1∧t2=s.2.2∧zv w0 2 TyC a s.1∧n≤maxLen):=by
 obtain ⟨k,h⟩:=h;refine ⟨k,?_⟩;cases o with
 | none=>exact ⟨none,0,0,0,0,h,fun s e=>by cases e⟩
 | some s=>
  obtain ⟨v,rfl,a,cp,rfl,hv,_⟩:=h;obtain ⟨_,hr,_,hl⟩:=hv.slice;exact ⟨a,cp,s.1.length,s.2.1,s.2.2,rfl,fun s' e=>by cases e;exact ⟨rfl,rfl,rfl,hr,hl⟩⟩
def jY(P:Pr8):Bool:=match (if inB P.main P.funcs.length then jN P (zf P P.main.toNat).sig else none) with
 | some s=>decide (s.1.length=0) && decide (s.2.1=0)
 | none=>false
theorem zeY(h:PrC w pb po P):Calls Tryz.prog 130 #[pointer (some ⟨pb,po,none⟩)] w fun e w'=>e=.returned (.bool (jY P))∧za [] w w':=by
 obtain ⟨fa,fp,c4,r4,_⟩:=h.c4;have c5:=h.c5.1;have HP:=hid h;have HW:=hid fun (w':World)=>zo P.main P.funcs.length w';have HR:=hid r4;clear h r4;cases hin:inB P.main P.funcs.length with
 | false=>
  rw[hin] at HW;have HE:Box (jY P=false):=hid (by unfold jY;rw[hin];rfl);clear hin HP HR;generalize P.funcs.length=n at *;go_enter Tryz.func130,Tryz.ntmps130;go_upto_region 1 with fail;go_quiet ((go_at_call 123;exact Calls.quiet_of_same (HW.o _)));go_wp2_with fail;go_ret;exact ⟨by rw[HE.o];rfl,za.drewN _ _ _⟩
 | true=>
  rw[hin] at HW;obtain ⟨g0,g1⟩:=z6.1 hin;obtain ⟨m,hm⟩:∃ m:Nat,P.main=(m:Int):=⟨P.main.toNat,by omega⟩;obtain ⟨fb,fo,rfl,hfu⟩:=HR.o.at (zi (l:=P.funcs) (k:=m) (d:=⟨0,[],[]⟩) (by omega))
  have HE:Box (jY P=match jN P (zf P m).sig with
   | some s=>decide (s.1.length=0) && decide (s.2.1=0)
   | none=>false):=hid (by unfold jY;rw[hin,hm];rfl)
  have e0:w.cell? ⟨fb,fo+m * 3,none⟩=some (int i64 (zf P m).sig):=hfu.c0.1;have HSG:=hid fun (w':World) (k:za [] w w')=>Zo HP.o k (zf P m).sig;rw[hm] at c5 HW g1;have hmn:(m:Int)<(P.funcs.length:Int):=g1;generalize hO:jN P (zf P m).sig=O at *;have C4:Box (∀ w',za [] w w'→w'.cell? ⟨pb,po+4,none⟩=some (.slice (some ⟨fb,fo,none⟩) P.funcs.length fp)∧w'.cell? ⟨pb,po+5,none⟩=some (int i64 (m:Int))∧w'.cell? ⟨fb,fo+m * 3,none⟩=some (int i64 (zf P m).sig)):=hid fun w' k=>⟨zb k c4,zb k c5,zb k e0⟩;clear hin g0 hm hfu hO HP HR;generalize P.funcs.length=n at *;generalize (zf P m).sig=sg at *;go_enter Tryz.func130,Tryz.ntmps130;go_upto_region 1 with fail;go_quiet ((go_at_call 123;exact Calls.quiet_of_same (HW.o _)));go_upto_region 3 with fail;generalize hwd:w.drewN nq=wd at *;have KD:za [] w wd:=by rw[← hwd];exact za.drewN _ _ _
  have HKD:=hid KD;clear hwd KD c4 c5 e0;obtain ⟨c4,c5,e0⟩:=C4.o _ HKD.o
  go_cut [3,4] (fun v3 v4 wz=>∃ b a cp k t1 t2,v3=pointer (some ⟨b,0,none⟩)∧v4=.bool O.isSome∧Box (zjd wz b (.slice a k cp) t1 t2)∧Box (∀ s,O=some s→k=s.1.length∧t1=s.2.1)∧Box (za [] w wz))
  case first=>
   have n1:=World.new_ne wd _ c4;have n2:=World.new_ne wd _ c5;have n3:=World.new_ne wd _ e0
   go_region_held3 (fun w'=>w'.cell? ⟨pb,po+4,none⟩=some (.slice (some ⟨fb,fo,none⟩) n fp)∧w'.cell? ⟨pb,po+5,none⟩=some (int i64 (m:Int))∧w'.cell? ⟨fb,fo+m * 3,none⟩=some (int i64 sg)) (first | go_keep | simp (maxDischargeDepth:=10) [*,World.cell?_alloc_some,World.cell?_setCell_far]) (first
    | (go_at_call 196;refine (HSG.o _ (HKD.o.quiet (za.drew [] _))).mono ?_;intro e w5 h5;obtain ⟨k5,a,cp,k,t1,t2,rfl,h6⟩:=h5.open;have K5:=(HKD.o.quiet (za.drew [] _)).quiet k5;obtain ⟨f51,f52,f53⟩:=C4.o _ K5;have H6:=hid h6;have HK5:=hid K5;clear k5 h5 h6)
    | (go_at_call 196;refine (HSG.o _ ((HKD.o.quiet (za.drew [] _)).quiet (za.alloc [] _ _))).mono ?_;intro e w5 h5;obtain ⟨k5,a,cp,k,t1,t2,rfl,h6⟩:=h5.open;have K5:=((HKD.o.quiet (za.drew [] _)).quiet (za.alloc [] _ _)).quiet k5;obtain ⟨f51,f52,f53⟩:=C4.o _ K5;have H6:=hid h6;have HK5:=hid K5;have hb:w5.heap[wd.heap.size]? = some (.cells #[.slice none 0 0,int i64 0,int i64 0] 59 (0,0)):=ze (zd wd.drew (.cells #[.slice none 0 0,int i64 0,int i64 0] 59)) k5;have z0:=zg hb 0;have z1:=zg hb 1;have z2:=zg hb 2;have y0:=zc hb 0;have y1:=zc hb 1;have y2:=zc hb 2;have HB:=hid hb;clear k5 h5 h6 hb))
   ·go_wp2_with fail
    go_meet;exact ⟨w5.heap.size,a,cp,k,t1,t2,rfl,rfl,hid (zd w5 _),hid fun s hs=>⟨(H6.o s hs).1,(H6.o s hs).2.1⟩,hid (HK5.o.quiet (za.alloc _ _ _))⟩
   ·go_wp2_with fail
    go_meet;exact ⟨wd.heap.size,a,cp,k,t1,t2,rfl,rfl,hid (JF HB.o _ _ _),hid fun s hs=>⟨(H6.o s hs).1,(H6.o s hs).2.1⟩,hid (HK5.o.trans (jF _ wd.heap.size _ _ _) (fun x hx hl=>by simp at hx;have:=HKD.o.size;omega))⟩
  case rest=>
   obtain ⟨b,a,cp,k,t1,t2,rfl,rfl,HB,HS,HKZ⟩:=hcut;have s0:=zc HB.o 0;have s1:=zc HB.o 1;clear c4 c5 e0;cases O with
   | none=>
    have HF:Box (jY P=false):=hid HE.o;clear HE HS;go_wp2_with fail;go_ret;exact ⟨by rw[HF.o];rfl,HKZ.o⟩
   | some s=>
    obtain ⟨e1,e2⟩:=HS.o s rfl;have HF:Box (jY P=(decide (k=0) && decide (t1=0))):=hid (by rw[HE.o,e1,e2]);clear HE HS e1 e2;by_cases hk:k=0
    ·have hk':((k:Int) == 0)=true:=eqb (by omega)
     have HG:Box (jY P=(t1 == 0)):=hid (by rw[HF.o,hk];rfl);clear hk HF;go_wp2_with fail;go_ret;exact ⟨by rw[HG.o];rfl,HKZ.o⟩
    ·have hk':((k:Int) == 0)=false:=neb (by omega)
     have HG:Box (jY P=false):=hid (by rw[HF.o];simp[hk]);clear hk HF;go_wp2_with fail;go_ret;exact ⟨by rw[HG.o];rfl,HKZ.o⟩
structure zh7 (w:World) (n:Nat) (r:Int):Prop where
 h0:w.heap[n]? = some (.cells #[.slice none 0 0,int i64 0,int i64 0] 59 (0,0))
 h1:w.heap[n+1]? = some (.cells #[int i64 0,int i64 0] 52 (0,0))
 h2:w.heap[n+2]? = some (.cells #[int i64 1,int i64 0,int i64 0,int i64 0,int i64 7,.slice none 0 0] 54 (0,0))
 h3:w.heap[n+3]? = some (.cells #[.slice (some ⟨n+2,0,none⟩) 1 1,int i64 3,int i64 r,int i64 0,int i64 0] 57 (0,0))
 h4:w.heap[n+4]? = some (.cells #[int i64 0,.slice (some ⟨n+1,0,none⟩) 1 1,.slice (some ⟨n+3,0,none⟩) 1 1] 50 (0,0))
 h5:w.heap[n+5]? = some (.cells #[.slice none 0 0,.slice (some ⟨n,0,none⟩) 1 1,.slice none 0 0,.slice none 0 0,.slice (some ⟨n+4,0,none⟩) 1 1,int i64 0] 45 (0,0))
theorem zh7.quiet(h:zh7 w n r)(k:za [] w w'):zh7 w' n r:=
 ⟨ze h.h0 k,ze h.h1 k,ze h.h2 k,ze h.h3 k,ze h.h4 k,ze h.h5 k⟩
def in1:In8:=⟨1,0,0,0,7,[]⟩
def bl1(r:Int):Bl8:=⟨[in1],3,r,0,0⟩
def fu1(r:Int):Fu8:=⟨0,[(0,0)],[bl1 r]⟩
def pr1(r:Int):Pr8:=⟨[],[([],0,0)],[],[],[fu1 r],0⟩
theorem zdu{z:Int}(h: -100≤z∧z≤100):b64 z:=by unfold b64;omega
theorem zH.of{z:Int}(h:w.cell? ⟨b,o,none⟩=some (int i64 z))(hz: -100≤z∧z≤100):zH w b o z:=⟨h,zdu hz⟩
theorem zv.one{α:Type}{R:World→Nat→Nat→α→Prop}{x:α}(h:R w b 0 x):zv w c R (some ⟨b,0,none⟩) [x]:=
 .inr ⟨b,0,rfl,fun j y hy=>by
  cases j with
  | zero=>simp at hy;subst hy;simpa using h
  | succ j=>simp at hy⟩
theorem SlC.one{α:Type}{R:World→Nat→Nat→α→Prop}{x:α}(hc:w.cell? ⟨b,o,none⟩=some (.slice (some ⟨b',0,none⟩) 1 1))(h:R w b' 0 x):SlC c R w b o [x]:=
 ⟨_,1,hc,zv.one h,Nat.le_refl _,by unfold maxLen;simp⟩
theorem SlC.none{α:Type}{R:World→Nat→Nat→α→Prop}(hc:w.cell? ⟨b,o,none⟩=some (.slice none 0 0)):SlC c R w b o []:=
 ⟨_,0,hc,.inl rfl,Nat.le_refl _,by unfold maxLen;simp⟩
theorem zh7.prc(h:zh7 w n r)(hr: -100≤r∧r≤100):PrC w (n+5) 0 (pr1 r):=by
 have i:InC w (n+2) 0 in1:=⟨zH.of (zc h.h2 0) (by simp[in1]),zH.of (zc h.h2 1) (by simp[in1]),zH.of (zc h.h2 2) (by simp[in1]),zH.of (zc h.h2 3) (by simp[in1]),zH.of (zc h.h2 4) (by simp[in1]),SlC.none (zc h.h2 5)⟩;have b:BlC w (n+3) 0 (bl1 r):=⟨SlC.one (zc h.h3 0) i,zH.of (zc h.h3 1) (by simp[bl1]),zH.of (zc h.h3 2) hr,zH.of (zc h.h3 3) (by simp[bl1]),zH.of (zc h.h3 4) (by simp[bl1])⟩;have t:TyC w (n+1) 0 (0,0):=⟨zH.of (zc h.h1 0) (by simp),zH.of (zc h.h1 1) (by simp)⟩;have f:FuC w (n+4) 0 (fu1 r):=⟨zH.of (zc h.h4 0) (by simp[fu1]),SlC.one (zc h.h4 1) t,SlC.one (zc h.h4 2) b⟩;have s:SgC w n 0 ([],0,0):=⟨SlC.none (zc h.h0 0),zH.of (zc h.h0 1) (by simp),zH.of (zc h.h0 2) (by simp)⟩;exact ⟨SlC.none (zc h.h5 0),SlC.one (zc h.h5 1) s,SlC.none (zc h.h5 2),SlC.none (zc h.h5 3),SlC.one (zc h.h5 4) f,zH.of (zc h.h5 5) (by simp[pr1])⟩
theorem Zk{o:Obj}(h:w.heap.size=n):(w.alloc o).heap[n]? = some o:=by subst h;exact zd w o
theorem zho(w:World):Calls Tryz.prog 22 #[] w fun e w'=>e=.returned (pointer (some ⟨w.heap.size+5,0,none⟩))∧zh7 w' w.heap.size 0∧za [] w w':=by
 obtain ⟨n,hn⟩:∃ n,n=w.heap.size:=⟨_,rfl⟩;rw[← hn];obtain ⟨w1,e1⟩:∃ w1,w1=w.alloc (.cells #[.slice none 0 0,int i64 0,int i64 0] 59):=⟨_,rfl⟩;obtain ⟨w2,e2⟩:∃ w2,w2=w1.alloc (.cells #[int i64 0,int i64 0] 52):=⟨_,rfl⟩;obtain ⟨w3,e3⟩:∃ w3,w3=w2.alloc (.cells #[int i64 1,int i64 0,int i64 0,int i64 0,int i64 7,.slice none 0 0] 54):=⟨_,rfl⟩;obtain ⟨w4,e4⟩:∃ w4,w4=w3.alloc (.cells #[.slice (some ⟨n+2,0,none⟩) 1 1,int i64 3,int i64 0,int i64 0,int i64 0] 57):=⟨_,rfl⟩;obtain ⟨w5,e5⟩:∃ w5,w5=w4.alloc (.cells #[int i64 0,.slice (some ⟨n+1,0,none⟩) 1 1,.slice (some ⟨n+3,0,none⟩) 1 1] 50):=⟨_,rfl⟩;obtain ⟨w6,e6⟩:∃ w6,w6=w5.alloc (.cells #[.slice none 0 0,.slice (some ⟨n,0,none⟩) 1 1,.slice none 0 0,.slice none 0 0,.slice (some ⟨n+4,0,none⟩) 1 1,int i64 0] 45):=⟨_,rfl⟩;have s1:w1.heap.size=n+1:=by rw[e1,World.size_alloc,hn]
 have s2:w2.heap.size=n+2:=by rw[e2,World.size_alloc,s1]
 have s3:w3.heap.size=n+3:=by rw[e3,World.size_alloc,s2]
 have s4:w4.heap.size=n+4:=by rw[e4,World.size_alloc,s3]
 have s5:w5.heap.size=n+5:=by rw[e5,World.size_alloc,s4]
 have k1:za [] w w1:=by rw[e1];exact za.alloc _ _ _
 have k2:za [] w1 w2:=by rw[e2];exact za.alloc _ _ _
 have k3:za [] w2 w3:=by rw[e3];exact za.alloc _ _ _
 have k4:za [] w3 w4:=by rw[e4];exact za.alloc _ _ _
 have k5:za [] w4 w5:=by rw[e5];exact za.alloc _ _ _
 have k6:za [] w5 w6:=by rw[e6];exact za.alloc _ _ _
 have H:Box (zh7 w6 n 0∧za [] w w6):=hid ⟨⟨
  ze (by rw[e1];exact Zk hn.symm) ((((k2.quiet k3).quiet k4).quiet k5).quiet k6),
  ze (by rw[e2];exact Zk s1) (((k3.quiet k4).quiet k5).quiet k6),
  ze (by rw[e3];exact Zk s2) ((k4.quiet k5).quiet k6),
  ze (w:=w4) (by rw[e4];exact Zk s3) (k5.quiet k6),
  ze (w:=w5) (by rw[e5];exact Zk s4) k6,
  by rw[e6];exact Zk s5⟩,((((k1.quiet k2).quiet k3).quiet k4).quiet k5).quiet k6⟩
 have HW:=hid e6;subst e5 e4 e3 e2 e1;clear s1 s2 s3 s4 s5 k1 k2 k3 k4 k5 k6 e6;subst hn;rw[HW.o] at H;clear HW;go_enter Tryz.func22,Tryz.ntmps22;go_wp2_with fail;go_ret;exact ⟨rfl,H.o⟩
end Go.Proofs.YthflgjkmbakedaaGreatDoor
