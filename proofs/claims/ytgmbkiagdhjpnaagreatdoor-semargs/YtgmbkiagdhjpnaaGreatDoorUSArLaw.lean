/-
  SemArgs, the walk.
-/
import Derived.Test.YtgmbkiagdhjpnaaGreatDoorUSGrow2
import Derived.Test.YtgmbkiagdhjpnaaGreatDoorU26
namespace Go.Proofs.YtgmbkiagdhjpnaaGreatDoor
open Go.RowKit
theorem wf_prA(a b c:Int):wfO (prA a b c)=none:=by kernel_rfl
theorem sm_prA(a b c:Int):Sm8 (prA a b c):=⟨by show 2≤12;omega,fun f hf=>(by
 have hf:f<2:=hf
 rcases (by omega:f=0∨f=1) with rfl | rfl
 ·show 1≤14
  omega
 ·show 1≤14
  omega),Nat.le_of_ble_eq_true (by kernel_rfl)⟩
theorem SlC.two9{α:Type}{w:World}{c:Nat}{R:World→Nat→Nat→α→Prop}{b o b' cap:Nat}{x y:α}(hc:w.cell? ⟨b,o,none⟩=some (.slice (some ⟨b',0,none⟩) 2 cap))(hl:2≤cap)(h:R w b' 0 x)(h1:R w b' c y):SlC c R w b o [x,y]:=
 ⟨_,cap,hc,.inr ⟨b',0,rfl,fun j z hz=>by
  match j,hz with
  | 0,hz=>simp at hz;subst hz;simpa using h
  | 1,hz=>simp at hz;subst hz;simpa using h1
  | j+2,hz=>simp at hz⟩,hl,by unfold maxLen;simp⟩
theorem SlC.lit5{α:Type}{w:World}{c:Nat}{R:World→Nat→Nat→α→Prop}{b o b':Nat}{x y u v t:α}(hc:w.cell? ⟨b,o,none⟩=some (.slice (some ⟨b',0,none⟩) 5 5))(h:R w b' 0 x)(h1:R w b' c y)(h2:R w b' (2 * c) u)(h3:R w b' (3 * c) v)(h4:R w b' (4 * c) t):SlC c R w b o [x,y,u,v,t]:=
 ⟨_,5,hc,.inr ⟨b',0,rfl,fun j z hz=>by
  match j,hz with
  | 0,hz=>simp at hz;subst hz;simpa using h
  | 1,hz=>simp at hz;subst hz;simpa using h1
  | 2,hz=>simp at hz;subst hz;simpa using h2
  | 3,hz=>simp at hz;subst hz;simpa using h3
  | 4,hz=>simp at hz;subst hz;simpa using h4
  | j+5,hz=>simp at hz⟩,by simp,by unfold maxLen;simp⟩
theorem inA9{o d a b n:Int}(h:(-100≤o∧o≤100)∧(-100≤d∧d≤100)∧(-100≤a∧a≤100)∧(-100≤b∧b≤100))(hn:b64 n):InB ⟨o,d,a,b,n,[]⟩:=⟨⟨x64 h.1,x64 h.2.1,x64 h.2.2.1,x64 h.2.2.2,hn⟩,rfl⟩
theorem own_cap{w:World}{base g n cap c:Nat}{xs:List Value}{T:TypeId}(h:w.ownsRow base T c (.slice (some ⟨g,0,none⟩) n cap) n xs):n≤cap∧∀ i,w.frozen? ⟨g,i,none⟩=false:=by
 rcases h.2 with ⟨h',_⟩ | ⟨g',cap',cur,h',_,hg,hn,_⟩
 ·simp at h'
 ·simp only[Value.slice.injEq,Option.some.injEq,Addr.mk.injEq,and_true] at h'
  obtain ⟨rfl,_,rfl⟩:=h'
  exact ⟨hn,fun i=>zg hg i⟩
theorem gu_sigs:Tryz.prog.underlying 52=some (.slice 75):=by kernel_rfl
theorem gi_sig:Tryz.prog.info? 75=some Tryz.t75:=by kernel_rfl
theorem gz_sig:Tryz.t75.zero=some (.agg #[.slice none 0 0,.int .i64 0,.int .i64 0]):=by kernel_rfl
theorem gs_sig:Tryz.t75.size=3:=by kernel_rfl
theorem gb_sig:Tryz.t75.bytes=40:=by kernel_rfl
theorem gu_fns:Tryz.prog.underlying 55=some (.slice 50):=by kernel_rfl
theorem gi_fn:Tryz.prog.info? 50=some Tryz.t50:=by kernel_rfl
theorem gz_fn:Tryz.t50.zero=some (.agg #[.int .i64 0,.slice none 0 0,.slice none 0 0]):=by kernel_rfl
theorem gs_fn:Tryz.t50.size=3:=by kernel_rfl
theorem gb_fn:Tryz.t50.bytes=56:=by kernel_rfl
theorem three9(x y z:Value)(hx:x.oneCell'=true)(hy:y.oneCell'=true)(hz:z.oneCell'=true):∀ u∈[x,y,z],u.oneCell'=true:=by
 intro u hu
 simp only[List.mem_cons,List.not_mem_nil,or_false] at hu
 rcases hu with rfl | rfl | rfl <;> assumption
theorem wrapA(x y z:Int):wrap64 (wrap64 (wrap64 (wrap64 (x+x)+y)+wrap64 (wrap64 (x+x)+y))+z)=wrap64 (wrap64 (wrap64 (wrap64 (x+x)+y) * 2)+z):=by
 rw[show wrap64 (wrap64 (x+x)+y)+wrap64 (wrap64 (x+x)+y)=wrap64 (wrap64 (x+x)+y) * 2 by omega]
structure A5 (w2 w:World) (q g5 cap5:Nat):Prop where
 h1:w.heap[q+1]? = some (.cells #[.int .i64 0,.int .i64 0] 60 (0,0))
 h3:w.heap[q+3]? = some (.cells #[.slice (some ⟨q+2,0,none⟩) 1 1,.int .i64 3,.int .i64 0,.int .i64 0,.int .i64 0] 68 (0,0))
 h4:w.heap[q+4]? = some (.cells #[.int .i64 0,.slice (some ⟨q+1,0,none⟩) 1 1,.slice (some ⟨q+3,0,none⟩) 1 1] 50 (0,0))
 h5:w.heap[q+5]? = some (.cells #[.slice none 0 0,.slice (some ⟨g5,0,none⟩) 2 cap5,.slice none 0 0,.slice none 0 0,.slice (some ⟨q+4,0,none⟩) 1 1,.int .i64 0] 57 (0,0))
 ty:w.heap[w2.heap.size]? = some (.cells #[.int .i64 0,.int .i64 0,.int .i64 0,.int .i64 0,.int .i64 0,.int .i64 0] 60 (0,0))
 own:w.ownsRow 0 75 3 (.slice (some ⟨g5,0,none⟩) 2 cap5) 2 [.slice none 0 0,.int .i64 0,.int .i64 0,.slice (some ⟨w2.heap.size,0,none⟩) 3 3,.int .i64 0,.int .i64 0]
 ge:g5=q∨w2.heap.size+2≤g5
structure A6 (w2 w6 w:World) (q g5 cap5 g7 cap7 tb ib bb:Nat):Prop where
 h1:w.heap[q+1]? = some (.cells #[.int .i64 0,.int .i64 0] 60 (0,0))
 h3:w.heap[q+3]? = some (.cells #[.slice (some ⟨q+2,0,none⟩) 1 1,.int .i64 3,.int .i64 0,.int .i64 0,.int .i64 0] 68 (0,0))
 h5:w.heap[q+5]? = some (.cells #[.slice none 0 0,.slice (some ⟨g5,0,none⟩) 2 cap5,.slice none 0 0,.slice none 0 0,.slice (some ⟨g7,0,none⟩) 2 cap7,.int .i64 0] 57 (0,0))
 ty:w.heap[w2.heap.size]? = some (.cells #[.int .i64 0,.int .i64 0,.int .i64 0,.int .i64 0,.int .i64 0,.int .i64 0] 60 (0,0))
 own:w.ownsRow 0 75 3 (.slice (some ⟨g5,0,none⟩) 2 cap5) 2 [.slice none 0 0,.int .i64 0,.int .i64 0,.slice (some ⟨w2.heap.size,0,none⟩) 3 3,.int .i64 0,.int .i64 0]
 t6:w.heap[tb]? = some (.cells #[.int .i64 0,.int .i64 0,.int .i64 0,.int .i64 0,.int .i64 0,.int .i64 0] 60 (0,0))
 i6:w.heap[ib]? = some (.cells #[.int .i64 2,.int .i64 0,.int .i64 0,.int .i64 0,.int .i64 0,.slice none 0 0,.int .i64 2,.int .i64 0,.int .i64 0,.int .i64 1,.int .i64 0,.slice none 0 0,.int .i64 2,.int .i64 0,.int .i64 0,.int .i64 0,.int .i64 0,.slice none 0 0,.int .i64 2,.int .i64 0,.int .i64 0,.int .i64 2,.int .i64 0,.slice none 0 0] 65 (0,0))
 b6:w.heap[bb]? = some (.cells #[.slice (some ⟨ib,0,none⟩) 4 4,.int .i64 3,.int .i64 0,.int .i64 0,.int .i64 0] 68 (0,0))
 fn:w.ownsRow 0 50 3 (.slice (some ⟨g7,0,none⟩) 2 cap7) 2 [.int .i64 0,.slice (some ⟨q+1,0,none⟩) 1 1,.slice (some ⟨q+3,0,none⟩) 1 1,.int .i64 1,.slice (some ⟨tb,0,none⟩) 3 3,.slice (some ⟨bb,0,none⟩) 1 1]
 ge:g7=q+4∨w6.heap.size+4≤g7
 gt:q+5<tb∧q+5<ib∧q+5<bb∧tb<w6.heap.size+3∧ib<w6.heap.size+3∧bb<w6.heap.size+3
set_option maxRecDepth 20000 in
set_option maxHeartbeats 8000000 in
theorem semArgs_walk(a b c:Int)(w:World)(hg:zbq w)(hT:jb w)(ha:b64 a)(hb:b64 b)(hc:b64 c):Calls Tryz.prog 10 #[.int .i64 a,.int .i64 b,.int .i64 c] w fun e w'=>e=.returned (.bool true)∧za [] w w':=by
 have HG:=hid hg
 have HT:=hid hT
 have HABC:=hid (And.intro ha (And.intro hb hc))
 have mk3:=mk_ty3
 have mk5:=mk_ty5
 clear hg hT ha hb hc
 go_enter Tryz.func10,Tryz.ntmps10
 go_wp2_with fail
 refine (zbs w HG.o HT.o).mono ?_
 rintro e w1 ⟨rfl,k1⟩
 have K1:=hid k1
 clear k1
 go_wp2_with fail
 refine (zjv w1).mono ?_
 rintro e w2 ⟨rfl,o2,k2⟩
 have KW:=hid (K1.o.quiet k2)
 obtain ⟨q,hq⟩:∃ q,q=w1.heap.size:=⟨_,rfl⟩
 rw[← hq] at o2 ⊢
 have LQ:Box (w.heap.size≤q):=hid (by rw[hq];exact K1.o.size)
 have H0:=hid o2.h0
 have H1:=hid o2.h1
 have H3:=hid o2.h3
 have H4:=hid o2.h4
 have H5:=hid o2.h5
 have L2:=hid (zt H5.o)
 clear o2 k2 hq K1
 have p5:=zc H5.o 1
 have y5:=zg H5.o 1
 have l5:=zt H5.o
 have l5a:q+5<w2.heap.size+1:=by omega
 have KA:Box (za [] w2 ((w2.alloc (.cells #[.int .i64 0,.int .i64 0,.int .i64 0,.int .i64 0,.int .i64 0,.int .i64 0] 60)).alloc (.cells #[.slice (some ⟨w2.heap.size,0,none⟩) 3 3,.int .i64 0,.int .i64 0] 75))):=hid ((za.alloc [] _ _).quiet (za.alloc [] _ _))
 have OW:Box (((w2.alloc (.cells #[.int .i64 0,.int .i64 0,.int .i64 0,.int .i64 0,.int .i64 0,.int .i64 0] 60)).alloc (.cells #[.slice (some ⟨w2.heap.size,0,none⟩) 3 3,.int .i64 0,.int .i64 0] 75)).ownsRow 0 75 3 (.slice (some ⟨q,0,none⟩) 1 1) 1 [.slice none 0 0,.int .i64 0,.int .i64 0]):=hid (one_row (zd H0.o KA.o) (Nat.zero_le _) (by unfold maxLen;omega) rfl)
 have NB:Box (((w2.alloc (.cells #[.int .i64 0,.int .i64 0,.int .i64 0,.int .i64 0,.int .i64 0,.int .i64 0] 60)).alloc (.cells #[.slice (some ⟨w2.heap.size,0,none⟩) 3 3,.int .i64 0,.int .i64 0] 75)).heap[w2.heap.size+1]? = some (.cells #[.slice (some ⟨w2.heap.size,0,none⟩) 3 3,.int .i64 0,.int .i64 0] 75 (0,0))):=hid (ZW (by simp))
 go_upto_region 5 with fail
 go_cut [] (fun wz=>∃ g5 cap5 wq,wq=wz∧Box (A5 w2 wq q g5 cap5)∧Box (za [] w wq))
 case first=>
  go_region_law (go_loud (refine step_append_lies _ (by rfl) _ _ _ (by rfl) 0 75 Tryz.t75 (.agg #[.slice none 0 0,.int .i64 0,.int .i64 0]) 3 40 gu_sigs gi_sig gz_sig gs_sig gb_sig rfl (by decide) (.slice (some ⟨q,0,none⟩) 1 1) 1 [.slice none 0 0,.int .i64 0,.int .i64 0] (by rfl) (gdrew OW.o) ⟨w2.heap.size+1,0,none⟩ 1 1 [.slice (some ⟨w2.heap.size,0,none⟩) 3 3,.int .i64 0,.int .i64 0] (by rfl) (by rfl) (World.news_of_block (cs:=#[.slice (some ⟨w2.heap.size,0,none⟩) 3 3,.int .i64 0,.int .i64 0]) (t:=75) (fr:=(0,0)) NB.o) (three9 _ _ _ rfl rfl rfl) (by omega) (by unfold maxLen;omega) (by omega) (Nat.zero_le _) (w2.heap.size+2) (by simp) ?_;intro g5 cap5 w5 hown5 hgrow5 hat5 hlt5;have KG:Box (za [q] ((w2.alloc (.cells #[.int .i64 0,.int .i64 0,.int .i64 0,.int .i64 0,.int .i64 0,.int .i64 0] 60)).alloc (.cells #[.slice (some ⟨w2.heap.size,0,none⟩) 3 3,.int .i64 0,.int .i64 0] 75)) w5):=hid (za.grown _ ⟨hgrow5.os,hgrow5.tape,hgrow5.output,hgrow5.size,hgrow5.block⟩ (fun x hx=>by simp[Value.ownBlock] at hx;simp[hx]));have HO5:=hid hown5;have GE:Box (g5=q∨w2.heap.size+2≤g5):=hid (by rcases hat5 with e | e;(simp[Value.ownBlock] at e;omega);omega);have q5:=zc ((KG.o.block _ (zt (zd H5.o KA.o)) (by simp)).trans (zd H5.o KA.o)) 1;have y6:=zg ((KG.o.block _ (zt (zd H5.o KA.o)) (by simp)).trans (zd H5.o KA.o)) 1;have l6:=zt ((KG.o.block _ (zt (zd H5.o KA.o)) (by simp)).trans (zd H5.o KA.o));clear hown5 hgrow5 hat5 hlt5))
  all_goals
   have FAR:∀ (bb:Nat) (cs:Array Value) (U:TypeId),bb≠q→bb≠q+5→((w2.alloc (.cells #[.int .i64 0,.int .i64 0,.int .i64 0,.int .i64 0,.int .i64 0,.int .i64 0] 60)).alloc (.cells #[.slice (some ⟨w2.heap.size,0,none⟩) 3 3,.int .i64 0,.int .i64 0] 75)).heap[bb]? = some (.cells cs U (0,0))→(w5.setCell ⟨q+5,1,none⟩ (.slice (some ⟨g5,0,none⟩) 2 cap5)).heap[bb]? = some (.cells cs U (0,0)):=fun bb cs U h1 h2 hb=>(heap_setCell_other _ _ _ _ h2).trans ((KG.o.block _ (zt hb) (by simp;exact h1)).trans hb)
   have TY:((w2.alloc (.cells #[.int .i64 0,.int .i64 0,.int .i64 0,.int .i64 0,.int .i64 0,.int .i64 0] 60)).alloc (.cells #[.slice (some ⟨w2.heap.size,0,none⟩) 3 3,.int .i64 0,.int .i64 0] 75)).heap[w2.heap.size]? = some (.cells #[.int .i64 0,.int .i64 0,.int .i64 0,.int .i64 0,.int .i64 0,.int .i64 0] 60 (0,0)):=zd (ze w2 _) (za.alloc [] _ _)
   have X5:=heap_setCell_same w5 (q+5) 1 _ _ (.slice (some ⟨g5,0,none⟩) 2 cap5) ((KG.o.block _ (zt (zd H5.o KA.o)) (by simp)).trans (zd H5.o KA.o))
   have KS:Box (za [q+5] w5 (w5.setCell ⟨q+5,1,none⟩ (.slice (some ⟨g5,0,none⟩) 2 cap5))):=hid (za.setCell _ _ _ _ (List.mem_singleton.2 rfl))
   have A:=hid (A5.mk (w2:=w2) (q:=q) (g5:=g5) (cap5:=cap5) (FAR _ _ _ (by omega) (by omega) (zd H1.o KA.o)) (FAR _ _ _ (by omega) (by omega) (zd H3.o KA.o)) (FAR _ _ _ (by omega) (by omega) (zd H4.o KA.o)) X5 (FAR _ _ _ (by have:=L2.o;omega) (by have:=L2.o;omega) TY) (zh HO5.o KS.o (fun x hx hm=>by have:=L2.o;have:=GE.o;simp[Value.ownBlock] at hx;simp at hm;omega)) GE.o)
   have K5:Box (za [] w (w5.setCell ⟨q+5,1,none⟩ (.slice (some ⟨g5,0,none⟩) 2 cap5))):=hid (((KW.o.quiet KA.o).trans KG.o (fun x hx hl=>by rw[List.mem_singleton.1 hx] at hl;have:=LQ.o;omega)).trans KS.o (fun x hx hl=>by rw[List.mem_singleton.1 hx] at hl;have:=LQ.o;omega))
   clear FAR TY X5 KS q5 y6 l6
   go_wp2_with fail
   go_meet
   exact ⟨_,_,_,rfl,A,K5⟩
 case rest=>
  obtain ⟨g5,cap5,w6,rfl,HA,K6⟩:=hcut
  clear p5 y5 l5 l5a KA OW NB H0 H1 H3 H4 H5 KW
  have L6:=hid (zt HA.o.h5)
  have p5:=zc HA.o.h5 4
  have y5:=zg HA.o.h5 4
  have l5:=zt HA.o.h5
  have l5a:q+5<w6.heap.size+1:=by omega
  have l5b:q+5<w6.heap.size+1+1:=by omega
  have l5c:q+5<w6.heap.size+1+1+1:=by omega
  have KA0:Box (za [] w6 ((((w6.alloc (.cells #[.int .i64 0,.int .i64 0,.int .i64 0,.int .i64 0,.int .i64 0,.int .i64 0] 60)).alloc (.cells #[.int .i64 2,.int .i64 0,.int .i64 0,.int .i64 0,.int .i64 0,.slice none 0 0,.int .i64 2,.int .i64 0,.int .i64 0,.int .i64 1,.int .i64 0,.slice none 0 0,.int .i64 2,.int .i64 0,.int .i64 0,.int .i64 0,.int .i64 0,.slice none 0 0,.int .i64 2,.int .i64 0,.int .i64 0,.int .i64 2,.int .i64 0,.slice none 0 0] 65)).alloc (.cells #[.slice (some ⟨w6.heap.size+1,0,none⟩) 4 4,.int .i64 3,.int .i64 0,.int .i64 0,.int .i64 0] 68)).alloc (.cells #[.int .i64 1,.slice (some ⟨w6.heap.size,0,none⟩) 3 3,.slice (some ⟨w6.heap.size+1+1,0,none⟩) 1 1] 50))):=hid ((((za.alloc [] _ _).quiet (za.alloc [] _ _)).quiet (za.alloc [] _ _)).quiet (za.alloc [] _ _))
  have OW0:Box (((((w6.alloc (.cells #[.int .i64 0,.int .i64 0,.int .i64 0,.int .i64 0,.int .i64 0,.int .i64 0] 60)).alloc (.cells #[.int .i64 2,.int .i64 0,.int .i64 0,.int .i64 0,.int .i64 0,.slice none 0 0,.int .i64 2,.int .i64 0,.int .i64 0,.int .i64 1,.int .i64 0,.slice none 0 0,.int .i64 2,.int .i64 0,.int .i64 0,.int .i64 0,.int .i64 0,.slice none 0 0,.int .i64 2,.int .i64 0,.int .i64 0,.int .i64 2,.int .i64 0,.slice none 0 0] 65)).alloc (.cells #[.slice (some ⟨w6.heap.size+1,0,none⟩) 4 4,.int .i64 3,.int .i64 0,.int .i64 0,.int .i64 0] 68)).alloc (.cells #[.int .i64 1,.slice (some ⟨w6.heap.size,0,none⟩) 3 3,.slice (some ⟨w6.heap.size+1+1,0,none⟩) 1 1] 50)).ownsRow 0 50 3 (.slice (some ⟨q+4,0,none⟩) 1 1) 1 [.int .i64 0,.slice (some ⟨q+1,0,none⟩) 1 1,.slice (some ⟨q+3,0,none⟩) 1 1]):=hid (one_row (zd HA.o.h4 KA0.o) (Nat.zero_le _) (by unfold maxLen;omega) rfl)
  have NB0:Box (((((w6.alloc (.cells #[.int .i64 0,.int .i64 0,.int .i64 0,.int .i64 0,.int .i64 0,.int .i64 0] 60)).alloc (.cells #[.int .i64 2,.int .i64 0,.int .i64 0,.int .i64 0,.int .i64 0,.slice none 0 0,.int .i64 2,.int .i64 0,.int .i64 0,.int .i64 1,.int .i64 0,.slice none 0 0,.int .i64 2,.int .i64 0,.int .i64 0,.int .i64 0,.int .i64 0,.slice none 0 0,.int .i64 2,.int .i64 0,.int .i64 0,.int .i64 2,.int .i64 0,.slice none 0 0] 65)).alloc (.cells #[.slice (some ⟨w6.heap.size+1,0,none⟩) 4 4,.int .i64 3,.int .i64 0,.int .i64 0,.int .i64 0] 68)).alloc (.cells #[.int .i64 1,.slice (some ⟨w6.heap.size,0,none⟩) 3 3,.slice (some ⟨w6.heap.size+1+1,0,none⟩) 1 1] 50)).heap[w6.heap.size+1+1+1]? = some (.cells #[.int .i64 1,.slice (some ⟨w6.heap.size,0,none⟩) 3 3,.slice (some ⟨w6.heap.size+1+1,0,none⟩) 1 1] 50 (0,0))):=hid (ZW (by simp))
  have KA1:Box (za [] w6 ((((w6.alloc (.cells #[.int .i64 2,.int .i64 0,.int .i64 0,.int .i64 0,.int .i64 0,.slice none 0 0,.int .i64 2,.int .i64 0,.int .i64 0,.int .i64 1,.int .i64 0,.slice none 0 0,.int .i64 2,.int .i64 0,.int .i64 0,.int .i64 0,.int .i64 0,.slice none 0 0,.int .i64 2,.int .i64 0,.int .i64 0,.int .i64 2,.int .i64 0,.slice none 0 0] 65)).alloc (.cells #[.int .i64 0,.int .i64 0,.int .i64 0,.int .i64 0,.int .i64 0,.int .i64 0] 60)).alloc (.cells #[.slice (some ⟨w6.heap.size,0,none⟩) 4 4,.int .i64 3,.int .i64 0,.int .i64 0,.int .i64 0] 68)).alloc (.cells #[.int .i64 1,.slice (some ⟨w6.heap.size+1,0,none⟩) 3 3,.slice (some ⟨w6.heap.size+1+1,0,none⟩) 1 1] 50))):=hid ((((za.alloc [] _ _).quiet (za.alloc [] _ _)).quiet (za.alloc [] _ _)).quiet (za.alloc [] _ _))
  have OW1:Box (((((w6.alloc (.cells #[.int .i64 2,.int .i64 0,.int .i64 0,.int .i64 0,.int .i64 0,.slice none 0 0,.int .i64 2,.int .i64 0,.int .i64 0,.int .i64 1,.int .i64 0,.slice none 0 0,.int .i64 2,.int .i64 0,.int .i64 0,.int .i64 0,.int .i64 0,.slice none 0 0,.int .i64 2,.int .i64 0,.int .i64 0,.int .i64 2,.int .i64 0,.slice none 0 0] 65)).alloc (.cells #[.int .i64 0,.int .i64 0,.int .i64 0,.int .i64 0,.int .i64 0,.int .i64 0] 60)).alloc (.cells #[.slice (some ⟨w6.heap.size,0,none⟩) 4 4,.int .i64 3,.int .i64 0,.int .i64 0,.int .i64 0] 68)).alloc (.cells #[.int .i64 1,.slice (some ⟨w6.heap.size+1,0,none⟩) 3 3,.slice (some ⟨w6.heap.size+1+1,0,none⟩) 1 1] 50)).ownsRow 0 50 3 (.slice (some ⟨q+4,0,none⟩) 1 1) 1 [.int .i64 0,.slice (some ⟨q+1,0,none⟩) 1 1,.slice (some ⟨q+3,0,none⟩) 1 1]):=hid (one_row (zd HA.o.h4 KA1.o) (Nat.zero_le _) (by unfold maxLen;omega) rfl)
  have NB1:Box (((((w6.alloc (.cells #[.int .i64 2,.int .i64 0,.int .i64 0,.int .i64 0,.int .i64 0,.slice none 0 0,.int .i64 2,.int .i64 0,.int .i64 0,.int .i64 1,.int .i64 0,.slice none 0 0,.int .i64 2,.int .i64 0,.int .i64 0,.int .i64 0,.int .i64 0,.slice none 0 0,.int .i64 2,.int .i64 0,.int .i64 0,.int .i64 2,.int .i64 0,.slice none 0 0] 65)).alloc (.cells #[.int .i64 0,.int .i64 0,.int .i64 0,.int .i64 0,.int .i64 0,.int .i64 0] 60)).alloc (.cells #[.slice (some ⟨w6.heap.size,0,none⟩) 4 4,.int .i64 3,.int .i64 0,.int .i64 0,.int .i64 0] 68)).alloc (.cells #[.int .i64 1,.slice (some ⟨w6.heap.size+1,0,none⟩) 3 3,.slice (some ⟨w6.heap.size+1+1,0,none⟩) 1 1] 50)).heap[w6.heap.size+1+1+1]? = some (.cells #[.int .i64 1,.slice (some ⟨w6.heap.size+1,0,none⟩) 3 3,.slice (some ⟨w6.heap.size+1+1,0,none⟩) 1 1] 50 (0,0))):=hid (ZW (by simp))
  have KA2:Box (za [] w6 ((((w6.alloc (.cells #[.int .i64 2,.int .i64 0,.int .i64 0,.int .i64 0,.int .i64 0,.slice none 0 0,.int .i64 2,.int .i64 0,.int .i64 0,.int .i64 1,.int .i64 0,.slice none 0 0,.int .i64 2,.int .i64 0,.int .i64 0,.int .i64 0,.int .i64 0,.slice none 0 0,.int .i64 2,.int .i64 0,.int .i64 0,.int .i64 2,.int .i64 0,.slice none 0 0] 65)).alloc (.cells #[.slice (some ⟨w6.heap.size,0,none⟩) 4 4,.int .i64 3,.int .i64 0,.int .i64 0,.int .i64 0] 68)).alloc (.cells #[.int .i64 0,.int .i64 0,.int .i64 0,.int .i64 0,.int .i64 0,.int .i64 0] 60)).alloc (.cells #[.int .i64 1,.slice (some ⟨w6.heap.size+1+1,0,none⟩) 3 3,.slice (some ⟨w6.heap.size+1,0,none⟩) 1 1] 50))):=hid ((((za.alloc [] _ _).quiet (za.alloc [] _ _)).quiet (za.alloc [] _ _)).quiet (za.alloc [] _ _))
  have OW2:Box (((((w6.alloc (.cells #[.int .i64 2,.int .i64 0,.int .i64 0,.int .i64 0,.int .i64 0,.slice none 0 0,.int .i64 2,.int .i64 0,.int .i64 0,.int .i64 1,.int .i64 0,.slice none 0 0,.int .i64 2,.int .i64 0,.int .i64 0,.int .i64 0,.int .i64 0,.slice none 0 0,.int .i64 2,.int .i64 0,.int .i64 0,.int .i64 2,.int .i64 0,.slice none 0 0] 65)).alloc (.cells #[.slice (some ⟨w6.heap.size,0,none⟩) 4 4,.int .i64 3,.int .i64 0,.int .i64 0,.int .i64 0] 68)).alloc (.cells #[.int .i64 0,.int .i64 0,.int .i64 0,.int .i64 0,.int .i64 0,.int .i64 0] 60)).alloc (.cells #[.int .i64 1,.slice (some ⟨w6.heap.size+1+1,0,none⟩) 3 3,.slice (some ⟨w6.heap.size+1,0,none⟩) 1 1] 50)).ownsRow 0 50 3 (.slice (some ⟨q+4,0,none⟩) 1 1) 1 [.int .i64 0,.slice (some ⟨q+1,0,none⟩) 1 1,.slice (some ⟨q+3,0,none⟩) 1 1]):=hid (one_row (zd HA.o.h4 KA2.o) (Nat.zero_le _) (by unfold maxLen;omega) rfl)
  have NB2:Box (((((w6.alloc (.cells #[.int .i64 2,.int .i64 0,.int .i64 0,.int .i64 0,.int .i64 0,.slice none 0 0,.int .i64 2,.int .i64 0,.int .i64 0,.int .i64 1,.int .i64 0,.slice none 0 0,.int .i64 2,.int .i64 0,.int .i64 0,.int .i64 0,.int .i64 0,.slice none 0 0,.int .i64 2,.int .i64 0,.int .i64 0,.int .i64 2,.int .i64 0,.slice none 0 0] 65)).alloc (.cells #[.slice (some ⟨w6.heap.size,0,none⟩) 4 4,.int .i64 3,.int .i64 0,.int .i64 0,.int .i64 0] 68)).alloc (.cells #[.int .i64 0,.int .i64 0,.int .i64 0,.int .i64 0,.int .i64 0,.int .i64 0] 60)).alloc (.cells #[.int .i64 1,.slice (some ⟨w6.heap.size+1+1,0,none⟩) 3 3,.slice (some ⟨w6.heap.size+1,0,none⟩) 1 1] 50)).heap[w6.heap.size+1+1+1]? = some (.cells #[.int .i64 1,.slice (some ⟨w6.heap.size+1+1,0,none⟩) 3 3,.slice (some ⟨w6.heap.size+1,0,none⟩) 1 1] 50 (0,0))):=hid (ZW (by simp))
  go_upto_region 6 with fail
  go_cut [] (fun wz=>∃ g7 cap7 tb ib bb wq,wq=wz∧Box (A6 w2 w6 wq q g5 cap5 g7 cap7 tb ib bb)∧Box (za [] w wq))
  case first=>
   go_region_law (first
    | (refine step_append_lies _ (by rfl) _ _ _ (by rfl) 0 50 Tryz.t50 (.agg #[.int .i64 0,.slice none 0 0,.slice none 0 0]) 3 56 gu_fns gi_fn gz_fn gs_fn gb_fn rfl (by decide) (.slice (some ⟨q+4,0,none⟩) 1 1) 1 [.int .i64 0,.slice (some ⟨q+1,0,none⟩) 1 1,.slice (some ⟨q+3,0,none⟩) 1 1] (by rfl) (gdrew OW0.o) ⟨w6.heap.size+1+1+1,0,none⟩ 1 1 [.int .i64 1,.slice (some ⟨w6.heap.size,0,none⟩) 3 3,.slice (some ⟨w6.heap.size+1+1,0,none⟩) 1 1] (by rfl) (by rfl) (World.news_of_block (cs:=#[.int .i64 1,.slice (some ⟨w6.heap.size,0,none⟩) 3 3,.slice (some ⟨w6.heap.size+1+1,0,none⟩) 1 1]) (t:=50) (fr:=(0,0)) NB0.o) (three9 _ _ _ rfl rfl rfl) (by omega) (by unfold maxLen;omega) (by omega) (Nat.zero_le _) (w6.heap.size+4) (by simp) ?_;intro g7 cap7 w7 hown5 hgrow5 hat5 hlt5;have KG:Box (za [q+4] ((((w6.alloc (.cells #[.int .i64 0,.int .i64 0,.int .i64 0,.int .i64 0,.int .i64 0,.int .i64 0] 60)).alloc (.cells #[.int .i64 2,.int .i64 0,.int .i64 0,.int .i64 0,.int .i64 0,.slice none 0 0,.int .i64 2,.int .i64 0,.int .i64 0,.int .i64 1,.int .i64 0,.slice none 0 0,.int .i64 2,.int .i64 0,.int .i64 0,.int .i64 0,.int .i64 0,.slice none 0 0,.int .i64 2,.int .i64 0,.int .i64 0,.int .i64 2,.int .i64 0,.slice none 0 0] 65)).alloc (.cells #[.slice (some ⟨w6.heap.size+1,0,none⟩) 4 4,.int .i64 3,.int .i64 0,.int .i64 0,.int .i64 0] 68)).alloc (.cells #[.int .i64 1,.slice (some ⟨w6.heap.size,0,none⟩) 3 3,.slice (some ⟨w6.heap.size+1+1,0,none⟩) 1 1] 50)) w7):=hid (za.grown _ ⟨hgrow5.os,hgrow5.tape,hgrow5.output,hgrow5.size,hgrow5.block⟩ (fun x hx=>by simp[Value.ownBlock] at hx;simp[hx]));have HO5:=hid hown5;have GE:Box (g7=q+4∨w6.heap.size+4≤g7):=hid (by rcases hat5 with e | e;(simp[Value.ownBlock] at e;omega);omega);have OLD:=hid fun (bb:Nat) (cs:Array Value) (U:TypeId) (h1:bb≠q+4) (h:w6.heap[bb]? = some (.cells cs U (0,0)))=>(KG.o.block _ (zt (zd h KA0.o)) (by simp;exact h1)).trans (zd h KA0.o);have TYw:Box (w7.heap[w6.heap.size]? = some (.cells #[.int .i64 0,.int .i64 0,.int .i64 0,.int .i64 0,.int .i64 0,.int .i64 0] 60 (0,0))):=hid ((KG.o.block _ (zt (zd (ZW (w:=w6) (by simp)) (((za.alloc [] _ _).quiet (za.alloc [] _ _)).quiet (za.alloc [] _ _)))) (by have:=L6.o;simp;omega)).trans (zd (ZW (w:=w6) (by simp)) (((za.alloc [] _ _).quiet (za.alloc [] _ _)).quiet (za.alloc [] _ _))));have TIw:Box (w7.heap[w6.heap.size+1]? = some (.cells #[.int .i64 2,.int .i64 0,.int .i64 0,.int .i64 0,.int .i64 0,.slice none 0 0,.int .i64 2,.int .i64 0,.int .i64 0,.int .i64 1,.int .i64 0,.slice none 0 0,.int .i64 2,.int .i64 0,.int .i64 0,.int .i64 0,.int .i64 0,.slice none 0 0,.int .i64 2,.int .i64 0,.int .i64 0,.int .i64 2,.int .i64 0,.slice none 0 0] 65 (0,0))):=hid ((KG.o.block _ (zt (zd (ZW (w:=(w6.alloc (.cells #[.int .i64 0,.int .i64 0,.int .i64 0,.int .i64 0,.int .i64 0,.int .i64 0] 60))) (by simp)) ((za.alloc [] _ _).quiet (za.alloc [] _ _)))) (by have:=L6.o;simp;omega)).trans (zd (ZW (w:=(w6.alloc (.cells #[.int .i64 0,.int .i64 0,.int .i64 0,.int .i64 0,.int .i64 0,.int .i64 0] 60))) (by simp)) ((za.alloc [] _ _).quiet (za.alloc [] _ _))));have TBw:Box (w7.heap[w6.heap.size+1+1]? = some (.cells #[.slice (some ⟨w6.heap.size+1,0,none⟩) 4 4,.int .i64 3,.int .i64 0,.int .i64 0,.int .i64 0] 68 (0,0))):=hid ((KG.o.block _ (zt (zd (ZW (w:=((w6.alloc (.cells #[.int .i64 0,.int .i64 0,.int .i64 0,.int .i64 0,.int .i64 0,.int .i64 0] 60)).alloc (.cells #[.int .i64 2,.int .i64 0,.int .i64 0,.int .i64 0,.int .i64 0,.slice none 0 0,.int .i64 2,.int .i64 0,.int .i64 0,.int .i64 1,.int .i64 0,.slice none 0 0,.int .i64 2,.int .i64 0,.int .i64 0,.int .i64 0,.int .i64 0,.slice none 0 0,.int .i64 2,.int .i64 0,.int .i64 0,.int .i64 2,.int .i64 0,.slice none 0 0] 65))) (by simp)) (za.alloc [] _ _))) (by have:=L6.o;simp;omega)).trans (zd (ZW (w:=((w6.alloc (.cells #[.int .i64 0,.int .i64 0,.int .i64 0,.int .i64 0,.int .i64 0,.int .i64 0] 60)).alloc (.cells #[.int .i64 2,.int .i64 0,.int .i64 0,.int .i64 0,.int .i64 0,.slice none 0 0,.int .i64 2,.int .i64 0,.int .i64 0,.int .i64 1,.int .i64 0,.slice none 0 0,.int .i64 2,.int .i64 0,.int .i64 0,.int .i64 0,.int .i64 0,.slice none 0 0,.int .i64 2,.int .i64 0,.int .i64 0,.int .i64 2,.int .i64 0,.slice none 0 0] 65))) (by simp)) (za.alloc [] _ _)));have K7:Box (za [] w w7):=hid ((K6.o.quiet KA0.o).trans KG.o (fun x hx hl=>by rw[List.mem_singleton.1 hx] at hl;have:=LQ.o;omega));have KSG:Box (w7.ownsRow 0 75 3 (.slice (some ⟨g5,0,none⟩) 2 cap5) 2 [.slice none 0 0,.int .i64 0,.int .i64 0,.slice (some ⟨w2.heap.size,0,none⟩) 3 3,.int .i64 0,.int .i64 0]):=hid (zh (zh HA.o.own KA0.o (fun _ _=>by simp)) KG.o (fun x hx hm=>by have:=HA.o.ge;have:=L2.o;simp[Value.ownBlock] at hx;simp at hm;omega));have q5:=zc (OLD.o _ _ _ (by omega) HA.o.h5) 4;have y6:=zg (OLD.o _ _ _ (by omega) HA.o.h5) 4;have l6:=zt (OLD.o _ _ _ (by omega) HA.o.h5);clear hown5 hgrow5 hat5 hlt5 KG)
    | (refine step_append_lies _ (by rfl) _ _ _ (by rfl) 0 50 Tryz.t50 (.agg #[.int .i64 0,.slice none 0 0,.slice none 0 0]) 3 56 gu_fns gi_fn gz_fn gs_fn gb_fn rfl (by decide) (.slice (some ⟨q+4,0,none⟩) 1 1) 1 [.int .i64 0,.slice (some ⟨q+1,0,none⟩) 1 1,.slice (some ⟨q+3,0,none⟩) 1 1] (by rfl) (gdrew OW1.o) ⟨w6.heap.size+1+1+1,0,none⟩ 1 1 [.int .i64 1,.slice (some ⟨w6.heap.size+1,0,none⟩) 3 3,.slice (some ⟨w6.heap.size+1+1,0,none⟩) 1 1] (by rfl) (by rfl) (World.news_of_block (cs:=#[.int .i64 1,.slice (some ⟨w6.heap.size+1,0,none⟩) 3 3,.slice (some ⟨w6.heap.size+1+1,0,none⟩) 1 1]) (t:=50) (fr:=(0,0)) NB1.o) (three9 _ _ _ rfl rfl rfl) (by omega) (by unfold maxLen;omega) (by omega) (Nat.zero_le _) (w6.heap.size+4) (by simp) ?_;intro g7 cap7 w7 hown5 hgrow5 hat5 hlt5;have KG:Box (za [q+4] ((((w6.alloc (.cells #[.int .i64 2,.int .i64 0,.int .i64 0,.int .i64 0,.int .i64 0,.slice none 0 0,.int .i64 2,.int .i64 0,.int .i64 0,.int .i64 1,.int .i64 0,.slice none 0 0,.int .i64 2,.int .i64 0,.int .i64 0,.int .i64 0,.int .i64 0,.slice none 0 0,.int .i64 2,.int .i64 0,.int .i64 0,.int .i64 2,.int .i64 0,.slice none 0 0] 65)).alloc (.cells #[.int .i64 0,.int .i64 0,.int .i64 0,.int .i64 0,.int .i64 0,.int .i64 0] 60)).alloc (.cells #[.slice (some ⟨w6.heap.size,0,none⟩) 4 4,.int .i64 3,.int .i64 0,.int .i64 0,.int .i64 0] 68)).alloc (.cells #[.int .i64 1,.slice (some ⟨w6.heap.size+1,0,none⟩) 3 3,.slice (some ⟨w6.heap.size+1+1,0,none⟩) 1 1] 50)) w7):=hid (za.grown _ ⟨hgrow5.os,hgrow5.tape,hgrow5.output,hgrow5.size,hgrow5.block⟩ (fun x hx=>by simp[Value.ownBlock] at hx;simp[hx]));have HO5:=hid hown5;have GE:Box (g7=q+4∨w6.heap.size+4≤g7):=hid (by rcases hat5 with e | e;(simp[Value.ownBlock] at e;omega);omega);have OLD:=hid fun (bb:Nat) (cs:Array Value) (U:TypeId) (h1:bb≠q+4) (h:w6.heap[bb]? = some (.cells cs U (0,0)))=>(KG.o.block _ (zt (zd h KA1.o)) (by simp;exact h1)).trans (zd h KA1.o);have TYw:Box (w7.heap[w6.heap.size+1]? = some (.cells #[.int .i64 0,.int .i64 0,.int .i64 0,.int .i64 0,.int .i64 0,.int .i64 0] 60 (0,0))):=hid ((KG.o.block _ (zt (zd (ZW (w:=(w6.alloc (.cells #[.int .i64 2,.int .i64 0,.int .i64 0,.int .i64 0,.int .i64 0,.slice none 0 0,.int .i64 2,.int .i64 0,.int .i64 0,.int .i64 1,.int .i64 0,.slice none 0 0,.int .i64 2,.int .i64 0,.int .i64 0,.int .i64 0,.int .i64 0,.slice none 0 0,.int .i64 2,.int .i64 0,.int .i64 0,.int .i64 2,.int .i64 0,.slice none 0 0] 65))) (by simp)) ((za.alloc [] _ _).quiet (za.alloc [] _ _)))) (by have:=L6.o;simp;omega)).trans (zd (ZW (w:=(w6.alloc (.cells #[.int .i64 2,.int .i64 0,.int .i64 0,.int .i64 0,.int .i64 0,.slice none 0 0,.int .i64 2,.int .i64 0,.int .i64 0,.int .i64 1,.int .i64 0,.slice none 0 0,.int .i64 2,.int .i64 0,.int .i64 0,.int .i64 0,.int .i64 0,.slice none 0 0,.int .i64 2,.int .i64 0,.int .i64 0,.int .i64 2,.int .i64 0,.slice none 0 0] 65))) (by simp)) ((za.alloc [] _ _).quiet (za.alloc [] _ _))));have TIw:Box (w7.heap[w6.heap.size]? = some (.cells #[.int .i64 2,.int .i64 0,.int .i64 0,.int .i64 0,.int .i64 0,.slice none 0 0,.int .i64 2,.int .i64 0,.int .i64 0,.int .i64 1,.int .i64 0,.slice none 0 0,.int .i64 2,.int .i64 0,.int .i64 0,.int .i64 0,.int .i64 0,.slice none 0 0,.int .i64 2,.int .i64 0,.int .i64 0,.int .i64 2,.int .i64 0,.slice none 0 0] 65 (0,0))):=hid ((KG.o.block _ (zt (zd (ZW (w:=w6) (by simp)) (((za.alloc [] _ _).quiet (za.alloc [] _ _)).quiet (za.alloc [] _ _)))) (by have:=L6.o;simp;omega)).trans (zd (ZW (w:=w6) (by simp)) (((za.alloc [] _ _).quiet (za.alloc [] _ _)).quiet (za.alloc [] _ _))));have TBw:Box (w7.heap[w6.heap.size+1+1]? = some (.cells #[.slice (some ⟨w6.heap.size,0,none⟩) 4 4,.int .i64 3,.int .i64 0,.int .i64 0,.int .i64 0] 68 (0,0))):=hid ((KG.o.block _ (zt (zd (ZW (w:=((w6.alloc (.cells #[.int .i64 2,.int .i64 0,.int .i64 0,.int .i64 0,.int .i64 0,.slice none 0 0,.int .i64 2,.int .i64 0,.int .i64 0,.int .i64 1,.int .i64 0,.slice none 0 0,.int .i64 2,.int .i64 0,.int .i64 0,.int .i64 0,.int .i64 0,.slice none 0 0,.int .i64 2,.int .i64 0,.int .i64 0,.int .i64 2,.int .i64 0,.slice none 0 0] 65)).alloc (.cells #[.int .i64 0,.int .i64 0,.int .i64 0,.int .i64 0,.int .i64 0,.int .i64 0] 60))) (by simp)) (za.alloc [] _ _))) (by have:=L6.o;simp;omega)).trans (zd (ZW (w:=((w6.alloc (.cells #[.int .i64 2,.int .i64 0,.int .i64 0,.int .i64 0,.int .i64 0,.slice none 0 0,.int .i64 2,.int .i64 0,.int .i64 0,.int .i64 1,.int .i64 0,.slice none 0 0,.int .i64 2,.int .i64 0,.int .i64 0,.int .i64 0,.int .i64 0,.slice none 0 0,.int .i64 2,.int .i64 0,.int .i64 0,.int .i64 2,.int .i64 0,.slice none 0 0] 65)).alloc (.cells #[.int .i64 0,.int .i64 0,.int .i64 0,.int .i64 0,.int .i64 0,.int .i64 0] 60))) (by simp)) (za.alloc [] _ _)));have K7:Box (za [] w w7):=hid ((K6.o.quiet KA1.o).trans KG.o (fun x hx hl=>by rw[List.mem_singleton.1 hx] at hl;have:=LQ.o;omega));have KSG:Box (w7.ownsRow 0 75 3 (.slice (some ⟨g5,0,none⟩) 2 cap5) 2 [.slice none 0 0,.int .i64 0,.int .i64 0,.slice (some ⟨w2.heap.size,0,none⟩) 3 3,.int .i64 0,.int .i64 0]):=hid (zh (zh HA.o.own KA1.o (fun _ _=>by simp)) KG.o (fun x hx hm=>by have:=HA.o.ge;have:=L2.o;simp[Value.ownBlock] at hx;simp at hm;omega));have q5:=zc (OLD.o _ _ _ (by omega) HA.o.h5) 4;have y6:=zg (OLD.o _ _ _ (by omega) HA.o.h5) 4;have l6:=zt (OLD.o _ _ _ (by omega) HA.o.h5);clear hown5 hgrow5 hat5 hlt5 KG)
    | (refine step_append_lies _ (by rfl) _ _ _ (by rfl) 0 50 Tryz.t50 (.agg #[.int .i64 0,.slice none 0 0,.slice none 0 0]) 3 56 gu_fns gi_fn gz_fn gs_fn gb_fn rfl (by decide) (.slice (some ⟨q+4,0,none⟩) 1 1) 1 [.int .i64 0,.slice (some ⟨q+1,0,none⟩) 1 1,.slice (some ⟨q+3,0,none⟩) 1 1] (by rfl) (gdrew OW2.o) ⟨w6.heap.size+1+1+1,0,none⟩ 1 1 [.int .i64 1,.slice (some ⟨w6.heap.size+1+1,0,none⟩) 3 3,.slice (some ⟨w6.heap.size+1,0,none⟩) 1 1] (by rfl) (by rfl) (World.news_of_block (cs:=#[.int .i64 1,.slice (some ⟨w6.heap.size+1+1,0,none⟩) 3 3,.slice (some ⟨w6.heap.size+1,0,none⟩) 1 1]) (t:=50) (fr:=(0,0)) NB2.o) (three9 _ _ _ rfl rfl rfl) (by omega) (by unfold maxLen;omega) (by omega) (Nat.zero_le _) (w6.heap.size+4) (by simp) ?_;intro g7 cap7 w7 hown5 hgrow5 hat5 hlt5;have KG:Box (za [q+4] ((((w6.alloc (.cells #[.int .i64 2,.int .i64 0,.int .i64 0,.int .i64 0,.int .i64 0,.slice none 0 0,.int .i64 2,.int .i64 0,.int .i64 0,.int .i64 1,.int .i64 0,.slice none 0 0,.int .i64 2,.int .i64 0,.int .i64 0,.int .i64 0,.int .i64 0,.slice none 0 0,.int .i64 2,.int .i64 0,.int .i64 0,.int .i64 2,.int .i64 0,.slice none 0 0] 65)).alloc (.cells #[.slice (some ⟨w6.heap.size,0,none⟩) 4 4,.int .i64 3,.int .i64 0,.int .i64 0,.int .i64 0] 68)).alloc (.cells #[.int .i64 0,.int .i64 0,.int .i64 0,.int .i64 0,.int .i64 0,.int .i64 0] 60)).alloc (.cells #[.int .i64 1,.slice (some ⟨w6.heap.size+1+1,0,none⟩) 3 3,.slice (some ⟨w6.heap.size+1,0,none⟩) 1 1] 50)) w7):=hid (za.grown _ ⟨hgrow5.os,hgrow5.tape,hgrow5.output,hgrow5.size,hgrow5.block⟩ (fun x hx=>by simp[Value.ownBlock] at hx;simp[hx]));have HO5:=hid hown5;have GE:Box (g7=q+4∨w6.heap.size+4≤g7):=hid (by rcases hat5 with e | e;(simp[Value.ownBlock] at e;omega);omega);have OLD:=hid fun (bb:Nat) (cs:Array Value) (U:TypeId) (h1:bb≠q+4) (h:w6.heap[bb]? = some (.cells cs U (0,0)))=>(KG.o.block _ (zt (zd h KA2.o)) (by simp;exact h1)).trans (zd h KA2.o);have TYw:Box (w7.heap[w6.heap.size+1+1]? = some (.cells #[.int .i64 0,.int .i64 0,.int .i64 0,.int .i64 0,.int .i64 0,.int .i64 0] 60 (0,0))):=hid ((KG.o.block _ (zt (zd (ZW (w:=((w6.alloc (.cells #[.int .i64 2,.int .i64 0,.int .i64 0,.int .i64 0,.int .i64 0,.slice none 0 0,.int .i64 2,.int .i64 0,.int .i64 0,.int .i64 1,.int .i64 0,.slice none 0 0,.int .i64 2,.int .i64 0,.int .i64 0,.int .i64 0,.int .i64 0,.slice none 0 0,.int .i64 2,.int .i64 0,.int .i64 0,.int .i64 2,.int .i64 0,.slice none 0 0] 65)).alloc (.cells #[.slice (some ⟨w6.heap.size,0,none⟩) 4 4,.int .i64 3,.int .i64 0,.int .i64 0,.int .i64 0] 68))) (by simp)) (za.alloc [] _ _))) (by have:=L6.o;simp;omega)).trans (zd (ZW (w:=((w6.alloc (.cells #[.int .i64 2,.int .i64 0,.int .i64 0,.int .i64 0,.int .i64 0,.slice none 0 0,.int .i64 2,.int .i64 0,.int .i64 0,.int .i64 1,.int .i64 0,.slice none 0 0,.int .i64 2,.int .i64 0,.int .i64 0,.int .i64 0,.int .i64 0,.slice none 0 0,.int .i64 2,.int .i64 0,.int .i64 0,.int .i64 2,.int .i64 0,.slice none 0 0] 65)).alloc (.cells #[.slice (some ⟨w6.heap.size,0,none⟩) 4 4,.int .i64 3,.int .i64 0,.int .i64 0,.int .i64 0] 68))) (by simp)) (za.alloc [] _ _)));have TIw:Box (w7.heap[w6.heap.size]? = some (.cells #[.int .i64 2,.int .i64 0,.int .i64 0,.int .i64 0,.int .i64 0,.slice none 0 0,.int .i64 2,.int .i64 0,.int .i64 0,.int .i64 1,.int .i64 0,.slice none 0 0,.int .i64 2,.int .i64 0,.int .i64 0,.int .i64 0,.int .i64 0,.slice none 0 0,.int .i64 2,.int .i64 0,.int .i64 0,.int .i64 2,.int .i64 0,.slice none 0 0] 65 (0,0))):=hid ((KG.o.block _ (zt (zd (ZW (w:=w6) (by simp)) (((za.alloc [] _ _).quiet (za.alloc [] _ _)).quiet (za.alloc [] _ _)))) (by have:=L6.o;simp;omega)).trans (zd (ZW (w:=w6) (by simp)) (((za.alloc [] _ _).quiet (za.alloc [] _ _)).quiet (za.alloc [] _ _))));have TBw:Box (w7.heap[w6.heap.size+1]? = some (.cells #[.slice (some ⟨w6.heap.size,0,none⟩) 4 4,.int .i64 3,.int .i64 0,.int .i64 0,.int .i64 0] 68 (0,0))):=hid ((KG.o.block _ (zt (zd (ZW (w:=(w6.alloc (.cells #[.int .i64 2,.int .i64 0,.int .i64 0,.int .i64 0,.int .i64 0,.slice none 0 0,.int .i64 2,.int .i64 0,.int .i64 0,.int .i64 1,.int .i64 0,.slice none 0 0,.int .i64 2,.int .i64 0,.int .i64 0,.int .i64 0,.int .i64 0,.slice none 0 0,.int .i64 2,.int .i64 0,.int .i64 0,.int .i64 2,.int .i64 0,.slice none 0 0] 65))) (by simp)) ((za.alloc [] _ _).quiet (za.alloc [] _ _)))) (by have:=L6.o;simp;omega)).trans (zd (ZW (w:=(w6.alloc (.cells #[.int .i64 2,.int .i64 0,.int .i64 0,.int .i64 0,.int .i64 0,.slice none 0 0,.int .i64 2,.int .i64 0,.int .i64 0,.int .i64 1,.int .i64 0,.slice none 0 0,.int .i64 2,.int .i64 0,.int .i64 0,.int .i64 0,.int .i64 0,.slice none 0 0,.int .i64 2,.int .i64 0,.int .i64 0,.int .i64 2,.int .i64 0,.slice none 0 0] 65))) (by simp)) ((za.alloc [] _ _).quiet (za.alloc [] _ _))));have K7:Box (za [] w w7):=hid ((K6.o.quiet KA2.o).trans KG.o (fun x hx hl=>by rw[List.mem_singleton.1 hx] at hl;have:=LQ.o;omega));have KSG:Box (w7.ownsRow 0 75 3 (.slice (some ⟨g5,0,none⟩) 2 cap5) 2 [.slice none 0 0,.int .i64 0,.int .i64 0,.slice (some ⟨w2.heap.size,0,none⟩) 3 3,.int .i64 0,.int .i64 0]):=hid (zh (zh HA.o.own KA2.o (fun _ _=>by simp)) KG.o (fun x hx hm=>by have:=HA.o.ge;have:=L2.o;simp[Value.ownBlock] at hx;simp at hm;omega));have q5:=zc (OLD.o _ _ _ (by omega) HA.o.h5) 4;have y6:=zg (OLD.o _ _ _ (by omega) HA.o.h5) 4;have l6:=zt (OLD.o _ _ _ (by omega) HA.o.h5);clear hown5 hgrow5 hat5 hlt5 KG))
   all_goals
    have X5:=heap_setCell_same w7 (q+5) 4 _ _ (.slice (some ⟨g7,0,none⟩) 2 cap7) (OLD.o _ _ _ (by omega) HA.o.h5)
    have KS:Box (za [q+5] w7 (w7.setCell ⟨q+5,4,none⟩ (.slice (some ⟨g7,0,none⟩) 2 cap7))):=hid (za.setCell _ _ _ _ (List.mem_singleton.2 rfl))
    have FAR:∀ (bb:Nat) (cs:Array Value) (U:TypeId),bb≠q+5→w7.heap[bb]? = some (.cells cs U (0,0))→(w7.setCell ⟨q+5,4,none⟩ (.slice (some ⟨g7,0,none⟩) 2 cap7)).heap[bb]? = some (.cells cs U (0,0)):=fun bb cs U h2 hb=>(heap_setCell_other _ _ _ _ h2).trans hb
    have gq:=HA.o.ge
    have l2:=L2.o
    have l6x:=L6.o
    have A:=hid (A6.mk (w2:=w2) (w6:=w6) (q:=q) (g5:=g5) (cap5:=cap5) (g7:=g7) (cap7:=cap7) (FAR _ _ _ (by omega) (OLD.o _ _ _ (by omega) HA.o.h1)) (FAR _ _ _ (by omega) (OLD.o _ _ _ (by omega) HA.o.h3)) X5 (FAR _ _ _ (by omega) (OLD.o _ _ _ (by omega) HA.o.ty)) (zh KSG.o KS.o (fun x hx hm=>by simp[Value.ownBlock] at hx;simp at hm;omega)) (FAR _ _ _ (by omega) TYw.o) (FAR _ _ _ (by omega) TIw.o) (FAR _ _ _ (by omega) TBw.o) (zh HO5.o KS.o (fun x hx hm=>by have:=GE.o;simp[Value.ownBlock] at hx;simp at hm;omega)) GE.o (by omega))
    have K5:Box (za [] w (w7.setCell ⟨q+5,4,none⟩ (.slice (some ⟨g7,0,none⟩) 2 cap7))):=hid (K7.o.trans KS.o (fun x hx hl=>by rw[List.mem_singleton.1 hx] at hl;have:=LQ.o;omega))
    clear FAR OLD TYw TIw TBw X5 KS KSG q5 y6 l6 gq l2 l6x
    go_wp2_with fail
    go_meet
    exact ⟨_,_,_,_,_,_,rfl,A,K5⟩
  case rest=>
   obtain ⟨g7,cap7,tb,ib,bb,w8,rfl,HB,K8⟩:=hcut
   have L26:=hid (zt HA.o.ty)
   have K6S:=hid K6.o.size
   have G5:Box ((g5=q∨w2.heap.size+2≤g5)∧g5<w6.heap.size):=hid ⟨HA.o.ge,(HA.o.own.lt _ rfl).2⟩
   clear p5 y5 l5 l5a l5b l5c KA0 OW0 NB0 KA1 OW1 NB1 KA2 OW2 NB2 HA K6
   have p5:=zc HB.o.h5 4
   have p1:w8.cell? ⟨g7,1,none⟩=some (.slice (some ⟨q+1,0,none⟩) 1 1):=HB.o.fn.cellAt 1 (by decide)
   have y1:=(own_cap HB.o.fn).2 1
   have l1:=block_lt_of_cell p1
   have L8:=hid (zt HB.o.h5)
   go_upto_region 9 with fail
   have B:=HB.o
   have gg:=B.ge
   have gt:=B.gt
   have l2:=L2.o
   have l26:=L26.o
   have g5q:=G5.o
   have KS:Box (za [g7] w8 (w8.setCell ⟨g7,1,none⟩ (.slice (some ⟨w8.heap.size,0,none⟩) 5 5))):=hid (za.setCell _ _ _ _ (List.mem_singleton.2 rfl))
   have KA:Box (za [] (w8.setCell ⟨g7,1,none⟩ (.slice (some ⟨w8.heap.size,0,none⟩) 5 5)) ((w8.setCell ⟨g7,1,none⟩ (.slice (some ⟨w8.heap.size,0,none⟩) 5 5)).alloc (.cells #[.int .i64 0,.int .i64 0,.int .i64 0,.int .i64 0,.int .i64 0,.int .i64 0,.int .i64 0,.int .i64 0,.int .i64 0,.int .i64 0] 60))):=hid (za.alloc [] _ _)
   have FAR:∀ (xx:Nat) (cs:Array Value) (U:TypeId),xx≠g7→w8.heap[xx]? = some (.cells cs U (0,0))→((w8.setCell ⟨g7,1,none⟩ (.slice (some ⟨w8.heap.size,0,none⟩) 5 5)).alloc (.cells #[.int .i64 0,.int .i64 0,.int .i64 0,.int .i64 0,.int .i64 0,.int .i64 0,.int .i64 0,.int .i64 0,.int .i64 0,.int .i64 0] 60)).heap[xx]? = some (.cells cs U (0,0)):=fun xx cs U h hb=>zd ((heap_setCell_other _ _ _ _ h).trans hb) KA.o
   have F3:=hid (FAR _ _ _ (by omega) B.h3)
   have F1:=hid (FAR _ _ _ (by omega) B.h1)
   have F5:=hid (FAR _ _ _ (by omega) B.h5)
   have FTY:=hid (FAR _ _ _ (by omega) B.ty)
   have FT6:=hid (FAR _ _ _ (by omega) B.t6)
   have FI6:=hid (FAR _ _ _ (by omega) B.i6)
   have FB6:=hid (FAR _ _ _ (by omega) B.b6)
   have FSG:=hid (zh (zh B.own KS.o (fun x hx hm=>by simp[Value.ownBlock] at hx;simp at hm;omega)) KA.o (fun _ _=>by simp))
   have FFN:=hid (zh (B.fn.stored 1 (.slice (some ⟨w8.heap.size,0,none⟩) 5 5)).1 KA.o (fun _ _=>by simp))
   have FR5:Box (((w8.setCell ⟨g7,1,none⟩ (.slice (some ⟨w8.heap.size,0,none⟩) 5 5)).alloc (.cells #[.int .i64 0,.int .i64 0,.int .i64 0,.int .i64 0,.int .i64 0,.int .i64 0,.int .i64 0,.int .i64 0,.int .i64 0,.int .i64 0] 60)).heap[w8.heap.size]? = some (.cells #[.int .i64 0,.int .i64 0,.int .i64 0,.int .i64 0,.int .i64 0,.int .i64 0,.int .i64 0,.int .i64 0,.int .i64 0,.int .i64 0] 60 (0,0))):=hid (ZW (by simp))
   have K9:Box (za [] w ((w8.setCell ⟨g7,1,none⟩ (.slice (some ⟨w8.heap.size,0,none⟩) 5 5)).alloc (.cells #[.int .i64 0,.int .i64 0,.int .i64 0,.int .i64 0,.int .i64 0,.int .i64 0,.int .i64 0,.int .i64 0,.int .i64 0,.int .i64 0] 60))):=hid ((K8.o.trans KS.o (fun x hx hl=>by rw[List.mem_singleton.1 hx] at hl;have:=LQ.o;have:=K6S.o;omega)).quiet KA.o)
   have L89:Box (q+5<w8.heap.size):=L8
   have NUM:Box ((g7=q+4∨w6.heap.size+4≤g7)∧(q+5<tb∧q+5<ib∧q+5<bb∧tb<w6.heap.size+3∧ib<w6.heap.size+3∧bb<w6.heap.size+3)∧q+5<w2.heap.size∧w2.heap.size<w6.heap.size∧((g5=q∨w2.heap.size+2≤g5)∧g5<w6.heap.size)∧q+5<w8.heap.size):=hid ⟨gg,gt,l2,l26,g5q,L8.o⟩
   clear FAR KS KA B p5 p1 y1 l1 HB K8 gg gt l2 l26 g5q
   generalize (w8.setCell ⟨g7,1,none⟩ (.slice (some ⟨w8.heap.size,0,none⟩) 5 5)).alloc (.cells #[.int .i64 0,.int .i64 0,.int .i64 0,.int .i64 0,.int .i64 0,.int .i64 0,.int .i64 0,.int .i64 0,.int .i64 0,.int .i64 0] 60)=w9 at *
   have p2:w9.cell? ⟨g7,2,none⟩=some (.slice (some ⟨q+3,0,none⟩) 1 1):=FFN.o.cellAt 2 (by decide)
   have c0:=zc F3.o 0
   have c1:=zc F3.o 1
   have c2:=zc F3.o 2
   have c3:=zc F3.o 3
   have c4:=zc F3.o 4
   have z0:=zg F3.o 0
   have z1:=zg F3.o 1
   have z2:=zg F3.o 2
   have z3:=zg F3.o 3
   have z4:=zg F3.o 4
   have l3:=zt F3.o
   have l3a:q+3<w9.heap.size+1:=by omega
   go_upto_region 10 with fail
   have num:=NUM.o
   have KS:Box (za [q+3] w9 (((((w9.setCell ⟨q+3,0,none⟩ (.slice (some ⟨w9.heap.size+1,0,none⟩) 4 4)).setCell ⟨q+3,1,none⟩ (.int .i64 3)).setCell ⟨q+3,2,none⟩ (.int .i64 4)).setCell ⟨q+3,3,none⟩ (.int .i64 0)).setCell ⟨q+3,4,none⟩ (.int .i64 0))):=hid ((((za.setCell [q+3] _ _ _ (List.mem_singleton.2 rfl)).step (za.setCell [q+3] _ _ _ (List.mem_singleton.2 rfl))).step (za.setCell [q+3] _ _ _ (List.mem_singleton.2 rfl))).step (za.setCell [q+3] _ _ _ (List.mem_singleton.2 rfl)) |>.step (za.setCell [q+3] _ _ _ (List.mem_singleton.2 rfl)))
   have KA:Box (za [] (((((w9.setCell ⟨q+3,0,none⟩ (.slice (some ⟨w9.heap.size+1,0,none⟩) 4 4)).setCell ⟨q+3,1,none⟩ (.int .i64 3)).setCell ⟨q+3,2,none⟩ (.int .i64 4)).setCell ⟨q+3,3,none⟩ (.int .i64 0)).setCell ⟨q+3,4,none⟩ (.int .i64 0)) (((((((w9.setCell ⟨q+3,0,none⟩ (.slice (some ⟨w9.heap.size+1,0,none⟩) 4 4)).setCell ⟨q+3,1,none⟩ (.int .i64 3)).setCell ⟨q+3,2,none⟩ (.int .i64 4)).setCell ⟨q+3,3,none⟩ (.int .i64 0)).setCell ⟨q+3,4,none⟩ (.int .i64 0)).alloc (.cells #[.int .i64 3,.int .i64 1,.int .i64 2] 3)).alloc (.cells #[.int .i64 1,.int .i64 3,.int .i64 0,.int .i64 0,.int .i64 a,.slice none 0 0,.int .i64 1,.int .i64 1,.int .i64 0,.int .i64 0,.int .i64 b,.slice none 0 0,.int .i64 1,.int .i64 2,.int .i64 0,.int .i64 0,.int .i64 c,.slice none 0 0,.int .i64 12,.int .i64 4,.int .i64 0,.int .i64 0,.int .i64 1,.slice (some ⟨w9.heap.size,0,none⟩) 3 3] 65))):=hid ((za.alloc [] _ _).quiet (za.alloc [] _ _))
   have FAR:∀ (xx:Nat) (cs:Array Value) (U:TypeId),xx≠q+3→w9.heap[xx]? = some (.cells cs U (0,0))→(((((((w9.setCell ⟨q+3,0,none⟩ (.slice (some ⟨w9.heap.size+1,0,none⟩) 4 4)).setCell ⟨q+3,1,none⟩ (.int .i64 3)).setCell ⟨q+3,2,none⟩ (.int .i64 4)).setCell ⟨q+3,3,none⟩ (.int .i64 0)).setCell ⟨q+3,4,none⟩ (.int .i64 0)).alloc (.cells #[.int .i64 3,.int .i64 1,.int .i64 2] 3)).alloc (.cells #[.int .i64 1,.int .i64 3,.int .i64 0,.int .i64 0,.int .i64 a,.slice none 0 0,.int .i64 1,.int .i64 1,.int .i64 0,.int .i64 0,.int .i64 b,.slice none 0 0,.int .i64 1,.int .i64 2,.int .i64 0,.int .i64 0,.int .i64 c,.slice none 0 0,.int .i64 12,.int .i64 4,.int .i64 0,.int .i64 0,.int .i64 1,.slice (some ⟨w9.heap.size,0,none⟩) 3 3] 65)).heap[xx]? = some (.cells cs U (0,0)):=fun xx cs U h hb=>zd ((KS.o.block _ (zt hb) (by simp;exact h)).trans hb) KA.o
   have E3:Box ((((((((w9.setCell ⟨q+3,0,none⟩ (.slice (some ⟨w9.heap.size+1,0,none⟩) 4 4)).setCell ⟨q+3,1,none⟩ (.int .i64 3)).setCell ⟨q+3,2,none⟩ (.int .i64 4)).setCell ⟨q+3,3,none⟩ (.int .i64 0)).setCell ⟨q+3,4,none⟩ (.int .i64 0)).alloc (.cells #[.int .i64 3,.int .i64 1,.int .i64 2] 3)).alloc (.cells #[.int .i64 1,.int .i64 3,.int .i64 0,.int .i64 0,.int .i64 a,.slice none 0 0,.int .i64 1,.int .i64 1,.int .i64 0,.int .i64 0,.int .i64 b,.slice none 0 0,.int .i64 1,.int .i64 2,.int .i64 0,.int .i64 0,.int .i64 c,.slice none 0 0,.int .i64 12,.int .i64 4,.int .i64 0,.int .i64 0,.int .i64 1,.slice (some ⟨w9.heap.size,0,none⟩) 3 3] 65)).heap[q+3]? = some (.cells #[.slice (some ⟨w9.heap.size+1,0,none⟩) 4 4,.int .i64 3,.int .i64 4,.int .i64 0,.int .i64 0] 68 (0,0))):=hid (zd (heap_setCell_same _ _ 4 _ _ _ (heap_setCell_same _ _ 3 _ _ _ (heap_setCell_same _ _ 2 _ _ _ (heap_setCell_same _ _ 1 _ _ _ (heap_setCell_same _ _ 0 _ _ _ F3.o))))) KA.o)
   have E1:=FAR _ _ _ (by omega) F1.o
   have E5:=FAR _ _ _ (by omega) F5.o
   have ETY:=FAR _ _ _ (by omega) FTY.o
   have ET6:=FAR _ _ _ (by omega) FT6.o
   have EI6:=FAR _ _ _ (by omega) FI6.o
   have EB6:=FAR _ _ _ (by omega) FB6.o
   have ER5:=FAR _ _ _ (by omega) FR5.o
   have ESG:=zh (zh FSG.o KS.o (fun x hx hm=>by simp[Value.ownBlock] at hx;simp at hm;omega)) KA.o (fun _ _=>by simp)
   have EFN:=zh (zh FFN.o KS.o (fun x hx hm=>by simp[Value.ownBlock] at hx;simp at hm;omega)) KA.o (fun _ _=>by simp)
   have EIN:(((((((w9.setCell ⟨q+3,0,none⟩ (.slice (some ⟨w9.heap.size+1,0,none⟩) 4 4)).setCell ⟨q+3,1,none⟩ (.int .i64 3)).setCell ⟨q+3,2,none⟩ (.int .i64 4)).setCell ⟨q+3,3,none⟩ (.int .i64 0)).setCell ⟨q+3,4,none⟩ (.int .i64 0)).alloc (.cells #[.int .i64 3,.int .i64 1,.int .i64 2] 3)).alloc (.cells #[.int .i64 1,.int .i64 3,.int .i64 0,.int .i64 0,.int .i64 a,.slice none 0 0,.int .i64 1,.int .i64 1,.int .i64 0,.int .i64 0,.int .i64 b,.slice none 0 0,.int .i64 1,.int .i64 2,.int .i64 0,.int .i64 0,.int .i64 c,.slice none 0 0,.int .i64 12,.int .i64 4,.int .i64 0,.int .i64 0,.int .i64 1,.slice (some ⟨w9.heap.size,0,none⟩) 3 3] 65)).heap[w9.heap.size]? = some (.cells #[.int .i64 3,.int .i64 1,.int .i64 2] 3 (0,0)):=zd (ZW (w:=(((((w9.setCell ⟨q+3,0,none⟩ (.slice (some ⟨w9.heap.size+1,0,none⟩) 4 4)).setCell ⟨q+3,1,none⟩ (.int .i64 3)).setCell ⟨q+3,2,none⟩ (.int .i64 4)).setCell ⟨q+3,3,none⟩ (.int .i64 0)).setCell ⟨q+3,4,none⟩ (.int .i64 0))) (by simp)) (za.alloc [] _ _)
   have EMI:(((((((w9.setCell ⟨q+3,0,none⟩ (.slice (some ⟨w9.heap.size+1,0,none⟩) 4 4)).setCell ⟨q+3,1,none⟩ (.int .i64 3)).setCell ⟨q+3,2,none⟩ (.int .i64 4)).setCell ⟨q+3,3,none⟩ (.int .i64 0)).setCell ⟨q+3,4,none⟩ (.int .i64 0)).alloc (.cells #[.int .i64 3,.int .i64 1,.int .i64 2] 3)).alloc (.cells #[.int .i64 1,.int .i64 3,.int .i64 0,.int .i64 0,.int .i64 a,.slice none 0 0,.int .i64 1,.int .i64 1,.int .i64 0,.int .i64 0,.int .i64 b,.slice none 0 0,.int .i64 1,.int .i64 2,.int .i64 0,.int .i64 0,.int .i64 c,.slice none 0 0,.int .i64 12,.int .i64 4,.int .i64 0,.int .i64 0,.int .i64 1,.slice (some ⟨w9.heap.size,0,none⟩) 3 3] 65)).heap[w9.heap.size+1]? = some (.cells #[.int .i64 1,.int .i64 3,.int .i64 0,.int .i64 0,.int .i64 a,.slice none 0 0,.int .i64 1,.int .i64 1,.int .i64 0,.int .i64 0,.int .i64 b,.slice none 0 0,.int .i64 1,.int .i64 2,.int .i64 0,.int .i64 0,.int .i64 c,.slice none 0 0,.int .i64 12,.int .i64 4,.int .i64 0,.int .i64 0,.int .i64 1,.slice (some ⟨w9.heap.size,0,none⟩) 3 3] 65 (0,0)):=ZW (w:=((((((w9.setCell ⟨q+3,0,none⟩ (.slice (some ⟨w9.heap.size+1,0,none⟩) 4 4)).setCell ⟨q+3,1,none⟩ (.int .i64 3)).setCell ⟨q+3,2,none⟩ (.int .i64 4)).setCell ⟨q+3,3,none⟩ (.int .i64 0)).setCell ⟨q+3,4,none⟩ (.int .i64 0)).alloc (.cells #[.int .i64 3,.int .i64 1,.int .i64 2] 3))) (by simp)
   have KX:Box (za [] w (((((((w9.setCell ⟨q+3,0,none⟩ (.slice (some ⟨w9.heap.size+1,0,none⟩) 4 4)).setCell ⟨q+3,1,none⟩ (.int .i64 3)).setCell ⟨q+3,2,none⟩ (.int .i64 4)).setCell ⟨q+3,3,none⟩ (.int .i64 0)).setCell ⟨q+3,4,none⟩ (.int .i64 0)).alloc (.cells #[.int .i64 3,.int .i64 1,.int .i64 2] 3)).alloc (.cells #[.int .i64 1,.int .i64 3,.int .i64 0,.int .i64 0,.int .i64 a,.slice none 0 0,.int .i64 1,.int .i64 1,.int .i64 0,.int .i64 0,.int .i64 b,.slice none 0 0,.int .i64 1,.int .i64 2,.int .i64 0,.int .i64 0,.int .i64 c,.slice none 0 0,.int .i64 12,.int .i64 4,.int .i64 0,.int .i64 0,.int .i64 1,.slice (some ⟨w9.heap.size,0,none⟩) 3 3] 65))):=hid ((K9.o.trans KS.o (fun x hx hl=>by rw[List.mem_singleton.1 hx] at hl;have:=LQ.o;omega)).quiet KA.o)
   clear FAR KS KA F1 F3 F5 FTY FT6 FI6 FB6 FR5 FSG FFN K9 num p2 c0 c1 c2 c3 c4 z0 z1 z2 z3 z4 l3 l3a
   generalize ((((((w9.setCell ⟨q+3,0,none⟩ (.slice (some ⟨w9.heap.size+1,0,none⟩) 4 4)).setCell ⟨q+3,1,none⟩ (.int .i64 3)).setCell ⟨q+3,2,none⟩ (.int .i64 4)).setCell ⟨q+3,3,none⟩ (.int .i64 0)).setCell ⟨q+3,4,none⟩ (.int .i64 0)).alloc (.cells #[.int .i64 3,.int .i64 1,.int .i64 2] 3)).alloc (.cells #[.int .i64 1,.int .i64 3,.int .i64 0,.int .i64 0,.int .i64 a,.slice none 0 0,.int .i64 1,.int .i64 1,.int .i64 0,.int .i64 0,.int .i64 b,.slice none 0 0,.int .i64 1,.int .i64 2,.int .i64 0,.int .i64 0,.int .i64 c,.slice none 0 0,.int .i64 12,.int .i64 4,.int .i64 0,.int .i64 0,.int .i64 1,.slice (some ⟨w9.heap.size,0,none⟩) 3 3] 65)=wx at *
   have PC:Box (PrC wx (q+5) 0 (prA a b c)):=hid (by
    have e3:=E3.o
    have i0:InC wx (w9.heap.size+1) 0 ⟨1,3,0,0,a,[]⟩:=in_lit (inA9 (by decide) HABC.o.1).1 rfl (zc EMI 0) (zc EMI 1) (zc EMI 2) (zc EMI 3) (zc EMI 4) (zc EMI 5)
    have i1:InC wx (w9.heap.size+1) 6 ⟨1,1,0,0,b,[]⟩:=in_lit (inA9 (by decide) HABC.o.2.1).1 rfl (zc EMI 6) (zc EMI 7) (zc EMI 8) (zc EMI 9) (zc EMI 10) (zc EMI 11)
    have i2:InC wx (w9.heap.size+1) (2 * 6) ⟨1,2,0,0,c,[]⟩:=in_lit (inA9 (by decide) HABC.o.2.2).1 rfl (zc EMI 12) (zc EMI 13) (zc EMI 14) (zc EMI 15) (zc EMI 16) (zc EMI 17)
    have ar:SlC 1 zI wx (w9.heap.size+1) (3 * 6+5) [3,1,2]:=SlC.lit3 (zc EMI 23) (zI.xof (zc EIN 0) (by simp)) (zI.xof (zc EIN 1) (by simp)) (zI.xof (zc EIN 2) (by simp))
    have i3:InC wx (w9.heap.size+1) (3 * 6) ⟨12,4,0,0,1,[3,1,2]⟩:=⟨zI.xof (zc EMI 18) (by simp),zI.xof (zc EMI 19) (by simp),zI.xof (zc EMI 20) (by simp),zI.xof (zc EMI 21) (by simp),zI.xof (zc EMI 22) (by simp),ar⟩
    have b0:BlC wx (q+3) 0 ⟨[⟨1,3,0,0,a,[]⟩,⟨1,1,0,0,b,[]⟩,⟨1,2,0,0,c,[]⟩,⟨12,4,0,0,1,[3,1,2]⟩],3,4,0,0⟩:=⟨SlC.lit4 (zc e3 0) i0 i1 i2 i3,zI.xof (zc e3 1) (by simp),zI.xof (zc e3 2) (by simp),zI.xof (zc e3 3) (by simp),zI.xof (zc e3 4) (by simp)⟩
    have j0:InC wx ib 0 ⟨2,0,0,0,0,[]⟩:=in_lit (inA9 (by decide) (by unfold b64;decide)).1 rfl (zc EI6 0) (zc EI6 1) (zc EI6 2) (zc EI6 3) (zc EI6 4) (zc EI6 5)
    have j1:InC wx ib 6 ⟨2,0,0,1,0,[]⟩:=in_lit (inA9 (by decide) (by unfold b64;decide)).1 rfl (zc EI6 6) (zc EI6 7) (zc EI6 8) (zc EI6 9) (zc EI6 10) (zc EI6 11)
    have j2:InC wx ib (2 * 6) ⟨2,0,0,0,0,[]⟩:=in_lit (inA9 (by decide) (by unfold b64;decide)).1 rfl (zc EI6 12) (zc EI6 13) (zc EI6 14) (zc EI6 15) (zc EI6 16) (zc EI6 17)
    have j3:InC wx ib (3 * 6) ⟨2,0,0,2,0,[]⟩:=in_lit (inA9 (by decide) (by unfold b64;decide)).1 rfl (zc EI6 18) (zc EI6 19) (zc EI6 20) (zc EI6 21) (zc EI6 22) (zc EI6 23)
    have b1:BlC wx bb 0 ⟨[⟨2,0,0,0,0,[]⟩,⟨2,0,0,1,0,[]⟩,⟨2,0,0,0,0,[]⟩,⟨2,0,0,2,0,[]⟩],3,0,0,0⟩:=⟨SlC.lit4 (zc EB6 0) j0 j1 j2 j3,zI.xof (zc EB6 1) (by simp),zI.xof (zc EB6 2) (by simp),zI.xof (zc EB6 3) (by simp),zI.xof (zc EB6 4) (by simp)⟩
    have f0:FuC wx g7 0 ⟨0,[(0,0),(0,0),(0,0),(0,0),(0,0)],[⟨[⟨1,3,0,0,a,[]⟩,⟨1,1,0,0,b,[]⟩,⟨1,2,0,0,c,[]⟩,⟨12,4,0,0,1,[3,1,2]⟩],3,4,0,0⟩]⟩:=⟨zI.xof (EFN.cellAt 0 (by decide)) (by simp),SlC.lit5 (EFN.cellAt 1 (by decide)) ⟨zI.xof (zc ER5 0) (by simp),zI.xof (zc ER5 1) (by simp)⟩ ⟨zI.xof (zc ER5 2) (by simp),zI.xof (zc ER5 3) (by simp)⟩ ⟨zI.xof (zc ER5 4) (by simp),zI.xof (zc ER5 5) (by simp)⟩ ⟨zI.xof (zc ER5 6) (by simp),zI.xof (zc ER5 7) (by simp)⟩ ⟨zI.xof (zc ER5 8) (by simp),zI.xof (zc ER5 9) (by simp)⟩,SlC.one (EFN.cellAt 2 (by decide)) b0⟩
    have f1:FuC wx g7 3 ⟨1,[(0,0),(0,0),(0,0)],[⟨[⟨2,0,0,0,0,[]⟩,⟨2,0,0,1,0,[]⟩,⟨2,0,0,0,0,[]⟩,⟨2,0,0,2,0,[]⟩],3,0,0,0⟩]⟩:=⟨zI.xof (EFN.cellAt 3 (by decide)) (by simp),SlC.lit3 (EFN.cellAt 4 (by decide)) ⟨zI.xof (zc ET6 0) (by simp),zI.xof (zc ET6 1) (by simp)⟩ ⟨zI.xof (zc ET6 2) (by simp),zI.xof (zc ET6 3) (by simp)⟩ ⟨zI.xof (zc ET6 4) (by simp),zI.xof (zc ET6 5) (by simp)⟩,SlC.one (EFN.cellAt 5 (by decide)) b1⟩
    have s0:SgC wx g5 0 ([],0,0):=⟨SlC.xnone (ESG.cellAt 0 (by decide)),zI.xof (ESG.cellAt 1 (by decide)) (by simp),zI.xof (ESG.cellAt 2 (by decide)) (by simp)⟩
    have s1:SgC wx g5 3 ([(0,0),(0,0),(0,0)],0,0):=⟨SlC.lit3 (ESG.cellAt 3 (by decide)) ⟨zI.xof (zc ETY 0) (by simp),zI.xof (zc ETY 1) (by simp)⟩ ⟨zI.xof (zc ETY 2) (by simp),zI.xof (zc ETY 3) (by simp)⟩ ⟨zI.xof (zc ETY 4) (by simp),zI.xof (zc ETY 5) (by simp)⟩,zI.xof (ESG.cellAt 4 (by decide)) (by simp),zI.xof (ESG.cellAt 5 (by decide)) (by simp)⟩
    exact ⟨SlC.xnone (zc E5 0),SlC.two9 (zc E5 1) (own_cap ESG).1 s0 s1,SlC.xnone (zc E5 2),SlC.xnone (zc E5 3),SlC.two9 (zc E5 4) (own_cap EFN).1 f0 f1,zI.xof (zc E5 5) (by simp[prA])⟩)
   clear E1 E3 E5 ETY ET6 EI6 EB6 ER5 ESG EFN EIN EMI
   have R:=hid (zmH (a:=none) (cp:=0) (l:=[]) PC.o (HG.o.quiet KX.o) (HT.o.kept KX.o (by simp)) (wf_prA a b c) (sm_prA a b c) (.inl rfl) (by simp))
   obtain ⟨r1,r2⟩:=brA a b c
   rw[wrapA] at r2
   generalize Zi (prA a b c) 3000 (ma0 (prA a b c) [])=r at *
   obtain ⟨y,m⟩:=r
   have r1:y=4:=r1
   have R2:Box (m.res=_):=hid r2
   subst r1
   have f1:=fun (x y z:Value)=>zno x y z
   clear r2 PC
   generalize prA a b c=P at *
   go_wp2_with fail
   refine R.o.mono ?_
   rintro e wr ⟨mp,F,rfl,m6,k6, -⟩
   have M6:Box (Q4 wr mp P m F):=hid m6
   have K6:=hid (KX.o.quiet k6)
   clear m6 k6 R KX
   go_wp2_with fail
   refine (zbx M6.o).mono ?_
   rintro e ws ⟨rfl,k7⟩
   have K7:=hid (K6.o.quiet k7)
   clear k7 M6
   rw[R2.o]
   unfold vlV
   go_wp2_with fail
   go_ret
   exact ⟨rfl,K7.o⟩
end Go.Proofs.YtgmbkiagdhjpnaaGreatDoor
