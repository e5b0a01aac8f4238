/-
  SemLoop, the walk.
-/
import Derived.Test.YtgmbkiagdhjpnaaGreatDoorUSLit
namespace Go.Proofs.YtgmbkiagdhjpnaaGreatDoor
open Go.RowKit
theorem wf_prL:wfO prL=none:=by decide +kernel
theorem sm_prL:Sm8 prL:=⟨by decide,by decide,by decide⟩
theorem under_i64s:Tryz.prog.underlying 23=some (.slice 2):=by kernel_rfl
theorem info_i64:Tryz.prog.info? 2=some Tryz.t2:=by kernel_rfl
theorem zero_i64:Tryz.t2.zero=some (.int .i64 0):=by kernel_rfl
theorem size_i64:Tryz.t2.size=1:=by kernel_rfl
theorem bytes_i64:Tryz.t2.bytes=8:=by kernel_rfl
theorem own_nums{w:World}{base:Nat}{T:TypeId}{v:Value}{l:List Int}(h:w.ownsRow base T 1 v l.length (Qd l))(hb:∀ z,z∈l→b64 z):∃ a cp,v=.slice a l.length cp∧zq w 1 zI a l:=by
 have hc:=h
 rcases h.2 with ⟨rfl,h0⟩ | ⟨g,cap,cur,rfl,_⟩
 ·rw[h0]
  exact ⟨_,_,rfl,.inl (List.eq_nil_of_length_eq_zero h0)⟩
 ·refine ⟨_,cap,rfl,.inr ⟨g,0,rfl,fun j z hz=>⟨?_,hb z (List.mem_of_getElem? hz)⟩⟩⟩
  have hj:=(List.getElem?_eq_some_iff.1 hz).1
  rw[Nat.zero_add,Nat.mul_one,hc.cellAt j (by omega)]
  unfold Qd
  rw[List.getElem?_map,hz]
  rfl
set_option maxRecDepth 20000 in
set_option maxHeartbeats 4000000 in
theorem semLoop_out(n:Int)(w:World)(hg:zbq w)(hT:jb w)(hn:n<0∨100<n):Calls Tryz.prog 9 #[.int .i64 n] w fun e w'=>e=.returned (.bool true)∧za [] w w':=by
 have HG:=hid hg
 have HT:=hid hT
 have hor:n<0∨(¬ n<0∧100<n):=by omega
 clear hg hT hn
 rcases hor with h1 | ⟨h1,h2⟩
 all_goals
  go_enter Tryz.func9,Tryz.ntmps9
  go_wp2_with fail
  refine (zbs w HG.o HT.o).mono ?_
  rintro e w1 ⟨rfl,k1⟩
  have K1:=hid k1
  clear k1
  go_wp2_with fail
  go_ret
  exact ⟨rfl,K1.o⟩
set_option maxRecDepth 20000 in
set_option maxHeartbeats 4000000 in
theorem semLoop_in(n:Nat)(w:World)(hg:zbq w)(hT:jb w)(hn:n≤100):Calls Tryz.prog 9 #[.int .i64 (n:Int)] w fun e w'=>e=.returned (.bool true)∧za [] w w':=by
 have HG:=hid hg
 have HT:=hid hT
 have mk:=mk_ty4
 have h1:¬ (n:Int)<0:=by omega
 have h2:¬ (100:Int)<(n:Int):=by omega
 clear hg hT
 go_enter Tryz.func9,Tryz.ntmps9
 go_wp2_with fail
 refine (zbs w HG.o HT.o).mono ?_
 rintro e w1 ⟨rfl,k1⟩
 have K1:=hid k1
 clear k1
 go_wp2_with fail
 refine (zjv w1).mono ?_
 rintro e w2 ⟨rfl,o2,k2⟩
 have KW:=hid (K1.o.quiet k2)
 obtain ⟨q,hq⟩:∃ q,q=w1.heap.size:=⟨_,rfl⟩
 rw[← hq] at o2 ⊢
 have LQ:Box (w.heap.size≤q):=hid (by rw[hq];exact K1.o.size)
 have H0:=hid o2.h0
 have H1:=hid o2.h1
 have H2:=hid o2.h2
 have H3:=hid o2.h3
 have H4:=hid o2.h4
 have H5:=hid o2.h5
 have LS_w2:=hid (zt H5.o)
 clear o2 k2 hq K1
 have rc0:=zc H5.o 4
 have rl0:=zt H5.o
 have rc1:=zc H4.o 1
 have rz1:=zg H4.o 1
 have rl1:=zt H4.o
 go_upto_region 9 with fail
 have KA:Box (za [] (w2.setCell ⟨q+4,1,none⟩ (.slice (some ⟨w2.heap.size,0,none⟩) 4 4)) ((w2.setCell ⟨q+4,1,none⟩ (.slice (some ⟨w2.heap.size,0,none⟩) 4 4)).alloc (.cells #[.int .i64 0,.int .i64 0,.int .i64 0,.int .i64 0,.int .i64 0,.int .i64 0,.int .i64 0,.int .i64 0] 60))):=hid (za.alloc [] _ _)
 have N_H4:Box (((w2.setCell ⟨q+4,1,none⟩ (.slice (some ⟨w2.heap.size,0,none⟩) 4 4)).alloc (.cells #[.int .i64 0,.int .i64 0,.int .i64 0,.int .i64 0,.int .i64 0,.int .i64 0,.int .i64 0,.int .i64 0] 60)).heap[q+4]? = some (.cells #[.int .i64 0,.slice (some ⟨w2.heap.size,0,none⟩) 4 4,.slice (some ⟨q+3,0,none⟩) 1 1] 50 (0,0))):=hid (zd (heap_setCell_same _ _ 1 _ _ _ H4.o) KA.o)
 have N_H0:Box (((w2.setCell ⟨q+4,1,none⟩ (.slice (some ⟨w2.heap.size,0,none⟩) 4 4)).alloc (.cells #[.int .i64 0,.int .i64 0,.int .i64 0,.int .i64 0,.int .i64 0,.int .i64 0,.int .i64 0,.int .i64 0] 60)).heap[q]? = some (.cells #[.slice none 0 0,.int .i64 0,.int .i64 0] 75 (0,0))):=hid (zd ((heap_setCell_other _ _ _ _ (by have:=LS_w2.o;show (q:Nat)≠q+4;omega)).trans H0.o) KA.o)
 have N_H1:Box (((w2.setCell ⟨q+4,1,none⟩ (.slice (some ⟨w2.heap.size,0,none⟩) 4 4)).alloc (.cells #[.int .i64 0,.int .i64 0,.int .i64 0,.int .i64 0,.int .i64 0,.int .i64 0,.int .i64 0,.int .i64 0] 60)).heap[q+1]? = some (.cells #[.int .i64 0,.int .i64 0] 60 (0,0))):=hid (zd ((heap_setCell_other _ _ _ _ (by have:=LS_w2.o;show (q+1:Nat)≠q+4;omega)).trans H1.o) KA.o)
 have N_H2:Box (((w2.setCell ⟨q+4,1,none⟩ (.slice (some ⟨w2.heap.size,0,none⟩) 4 4)).alloc (.cells #[.int .i64 0,.int .i64 0,.int .i64 0,.int .i64 0,.int .i64 0,.int .i64 0,.int .i64 0,.int .i64 0] 60)).heap[q+2]? = some (.cells #[.int .i64 1,.int .i64 0,.int .i64 0,.int .i64 0,.int .i64 7,.slice none 0 0] 65 (0,0))):=hid (zd ((heap_setCell_other _ _ _ _ (by have:=LS_w2.o;show (q+2:Nat)≠q+4;omega)).trans H2.o) KA.o)
 have N_H3:Box (((w2.setCell ⟨q+4,1,none⟩ (.slice (some ⟨w2.heap.size,0,none⟩) 4 4)).alloc (.cells #[.int .i64 0,.int .i64 0,.int .i64 0,.int .i64 0,.int .i64 0,.int .i64 0,.int .i64 0,.int .i64 0] 60)).heap[q+3]? = some (.cells #[.slice (some ⟨q+2,0,none⟩) 1 1,.int .i64 3,.int .i64 0,.int .i64 0,.int .i64 0] 68 (0,0))):=hid (zd ((heap_setCell_other _ _ _ _ (by have:=LS_w2.o;show (q+3:Nat)≠q+4;omega)).trans H3.o) KA.o)
 have N_H5:Box (((w2.setCell ⟨q+4,1,none⟩ (.slice (some ⟨w2.heap.size,0,none⟩) 4 4)).alloc (.cells #[.int .i64 0,.int .i64 0,.int .i64 0,.int .i64 0,.int .i64 0,.int .i64 0,.int .i64 0,.int .i64 0] 60)).heap[q+5]? = some (.cells #[.slice none 0 0,.slice (some ⟨q,0,none⟩) 1 1,.slice none 0 0,.slice none 0 0,.slice (some ⟨q+4,0,none⟩) 1 1,.int .i64 0] 57 (0,0))):=hid (zd ((heap_setCell_other _ _ _ _ (by have:=LS_w2.o;show (q+5:Nat)≠q+4;omega)).trans H5.o) KA.o)
 have N_HR:Box (((w2.setCell ⟨q+4,1,none⟩ (.slice (some ⟨w2.heap.size,0,none⟩) 4 4)).alloc (.cells #[.int .i64 0,.int .i64 0,.int .i64 0,.int .i64 0,.int .i64 0,.int .i64 0,.int .i64 0,.int .i64 0] 60)).heap[w2.heap.size]? = some (.cells #[.int .i64 0,.int .i64 0,.int .i64 0,.int .i64 0,.int .i64 0,.int .i64 0,.int .i64 0,.int .i64 0] 60 (0,0))):=hid (ZW (w:=(w2.setCell ⟨q+4,1,none⟩ (.slice (some ⟨w2.heap.size,0,none⟩) 4 4))) (by simp))
 have N_K:Box (za [] w ((w2.setCell ⟨q+4,1,none⟩ (.slice (some ⟨w2.heap.size,0,none⟩) 4 4)).alloc (.cells #[.int .i64 0,.int .i64 0,.int .i64 0,.int .i64 0,.int .i64 0,.int .i64 0,.int .i64 0,.int .i64 0] 60))):=hid ((KW.o.trans (za.setCell [q+4] _ _ _ (List.mem_singleton.2 rfl)) (fun x hx hl=>by rw[List.mem_singleton.1 hx] at hl;have:=LQ.o;omega)).quiet KA.o)
 clear KA KW H0 H1 H2 H3 H4 H5
 generalize (w2.setCell ⟨q+4,1,none⟩ (.slice (some ⟨w2.heap.size,0,none⟩) 4 4)).alloc (.cells #[.int .i64 0,.int .i64 0,.int .i64 0,.int .i64 0,.int .i64 0,.int .i64 0,.int .i64 0,.int .i64 0] 60)=w3 at *
 have H4:=N_H4
 have H0:=N_H0
 have H1:=N_H1
 have H2:=N_H2
 have H3:=N_H3
 have H5:=N_H5
 have HR:=N_HR
 have KW:=N_K
 clear N_K N_H4 N_H0 N_H1 N_H2 N_H3 N_H5 N_HR
 have LS_w3:=hid (zt H5.o)
 clear rc0 rl0 rc1 rl1 rz1
 have rc0:=zc H4.o 2
 have rz0:=zg H4.o 2
 have rl0:=zt H4.o
 have rl0_1:q+4<w3.heap.size+1:=by omega
 have rl0_2:q+4<w3.heap.size+1+1:=by omega
 go_upto_region 10 with fail
 have KA:Box (za [] (w3.setCell ⟨q+4,2,none⟩ (.slice (some ⟨w3.heap.size+1+1,0,none⟩) 3 3)) ((((w3.setCell ⟨q+4,2,none⟩ (.slice (some ⟨w3.heap.size+1+1,0,none⟩) 3 3)).alloc (.cells #[.int .i64 1,.int .i64 0,.int .i64 0,.int .i64 0,.int .i64 0,.slice none 0 0,.int .i64 1,.int .i64 1,.int .i64 0,.int .i64 0,.int .i64 1,.slice none 0 0] 65)).alloc (.cells #[.int .i64 2,.int .i64 0,.int .i64 0,.int .i64 1,.int .i64 0,.slice none 0 0,.int .i64 3,.int .i64 2,.int .i64 0,.int .i64 0,.int .i64 0,.slice none 0 0] 65)).alloc (.cells #[.slice (some ⟨w3.heap.size,0,none⟩) 2 2,.int .i64 1,.int .i64 0,.int .i64 1,.int .i64 0,.slice (some ⟨w3.heap.size+1,0,none⟩) 2 2,.int .i64 2,.int .i64 2,.int .i64 1,.int .i64 2,.slice none 0 0,.int .i64 3,.int .i64 0,.int .i64 0,.int .i64 0] 68))):=hid (((za.alloc [] _ _).quiet (za.alloc [] _ _)).quiet (za.alloc [] _ _))
 have N_H4:Box (((((w3.setCell ⟨q+4,2,none⟩ (.slice (some ⟨w3.heap.size+1+1,0,none⟩) 3 3)).alloc (.cells #[.int .i64 1,.int .i64 0,.int .i64 0,.int .i64 0,.int .i64 0,.slice none 0 0,.int .i64 1,.int .i64 1,.int .i64 0,.int .i64 0,.int .i64 1,.slice none 0 0] 65)).alloc (.cells #[.int .i64 2,.int .i64 0,.int .i64 0,.int .i64 1,.int .i64 0,.slice none 0 0,.int .i64 3,.int .i64 2,.int .i64 0,.int .i64 0,.int .i64 0,.slice none 0 0] 65)).alloc (.cells #[.slice (some ⟨w3.heap.size,0,none⟩) 2 2,.int .i64 1,.int .i64 0,.int .i64 1,.int .i64 0,.slice (some ⟨w3.heap.size+1,0,none⟩) 2 2,.int .i64 2,.int .i64 2,.int .i64 1,.int .i64 2,.slice none 0 0,.int .i64 3,.int .i64 0,.int .i64 0,.int .i64 0] 68)).heap[q+4]? = some (.cells #[.int .i64 0,.slice (some ⟨w2.heap.size,0,none⟩) 4 4,.slice (some ⟨w3.heap.size+1+1,0,none⟩) 3 3] 50 (0,0))):=hid (zd (heap_setCell_same _ _ 2 _ _ _ H4.o) KA.o)
 have N_H0:Box (((((w3.setCell ⟨q+4,2,none⟩ (.slice (some ⟨w3.heap.size+1+1,0,none⟩) 3 3)).alloc (.cells #[.int .i64 1,.int .i64 0,.int .i64 0,.int .i64 0,.int .i64 0,.slice none 0 0,.int .i64 1,.int .i64 1,.int .i64 0,.int .i64 0,.int .i64 1,.slice none 0 0] 65)).alloc (.cells #[.int .i64 2,.int .i64 0,.int .i64 0,.int .i64 1,.int .i64 0,.slice none 0 0,.int .i64 3,.int .i64 2,.int .i64 0,.int .i64 0,.int .i64 0,.slice none 0 0] 65)).alloc (.cells #[.slice (some ⟨w3.heap.size,0,none⟩) 2 2,.int .i64 1,.int .i64 0,.int .i64 1,.int .i64 0,.slice (some ⟨w3.heap.size+1,0,none⟩) 2 2,.int .i64 2,.int .i64 2,.int .i64 1,.int .i64 2,.slice none 0 0,.int .i64 3,.int .i64 0,.int .i64 0,.int .i64 0] 68)).heap[q]? = some (.cells #[.slice none 0 0,.int .i64 0,.int .i64 0] 75 (0,0))):=hid (zd ((heap_setCell_other _ _ _ _ (by have:=LS_w2.o;have:=LS_w3.o;show (q:Nat)≠q+4;omega)).trans H0.o) KA.o)
 have N_H1:Box (((((w3.setCell ⟨q+4,2,none⟩ (.slice (some ⟨w3.heap.size+1+1,0,none⟩) 3 3)).alloc (.cells #[.int .i64 1,.int .i64 0,.int .i64 0,.int .i64 0,.int .i64 0,.slice none 0 0,.int .i64 1,.int .i64 1,.int .i64 0,.int .i64 0,.int .i64 1,.slice none 0 0] 65)).alloc (.cells #[.int .i64 2,.int .i64 0,.int .i64 0,.int .i64 1,.int .i64 0,.slice none 0 0,.int .i64 3,.int .i64 2,.int .i64 0,.int .i64 0,.int .i64 0,.slice none 0 0] 65)).alloc (.cells #[.slice (some ⟨w3.heap.size,0,none⟩) 2 2,.int .i64 1,.int .i64 0,.int .i64 1,.int .i64 0,.slice (some ⟨w3.heap.size+1,0,none⟩) 2 2,.int .i64 2,.int .i64 2,.int .i64 1,.int .i64 2,.slice none 0 0,.int .i64 3,.int .i64 0,.int .i64 0,.int .i64 0] 68)).heap[q+1]? = some (.cells #[.int .i64 0,.int .i64 0] 60 (0,0))):=hid (zd ((heap_setCell_other _ _ _ _ (by have:=LS_w2.o;have:=LS_w3.o;show (q+1:Nat)≠q+4;omega)).trans H1.o) KA.o)
 have N_H2:Box (((((w3.setCell ⟨q+4,2,none⟩ (.slice (some ⟨w3.heap.size+1+1,0,none⟩) 3 3)).alloc (.cells #[.int .i64 1,.int .i64 0,.int .i64 0,.int .i64 0,.int .i64 0,.slice none 0 0,.int .i64 1,.int .i64 1,.int .i64 0,.int .i64 0,.int .i64 1,.slice none 0 0] 65)).alloc (.cells #[.int .i64 2,.int .i64 0,.int .i64 0,.int .i64 1,.int .i64 0,.slice none 0 0,.int .i64 3,.int .i64 2,.int .i64 0,.int .i64 0,.int .i64 0,.slice none 0 0] 65)).alloc (.cells #[.slice (some ⟨w3.heap.size,0,none⟩) 2 2,.int .i64 1,.int .i64 0,.int .i64 1,.int .i64 0,.slice (some ⟨w3.heap.size+1,0,none⟩) 2 2,.int .i64 2,.int .i64 2,.int .i64 1,.int .i64 2,.slice none 0 0,.int .i64 3,.int .i64 0,.int .i64 0,.int .i64 0] 68)).heap[q+2]? = some (.cells #[.int .i64 1,.int .i64 0,.int .i64 0,.int .i64 0,.int .i64 7,.slice none 0 0] 65 (0,0))):=hid (zd ((heap_setCell_other _ _ _ _ (by have:=LS_w2.o;have:=LS_w3.o;show (q+2:Nat)≠q+4;omega)).trans H2.o) KA.o)
 have N_H3:Box (((((w3.setCell ⟨q+4,2,none⟩ (.slice (some ⟨w3.heap.size+1+1,0,none⟩) 3 3)).alloc (.cells #[.int .i64 1,.int .i64 0,.int .i64 0,.int .i64 0,.int .i64 0,.slice none 0 0,.int .i64 1,.int .i64 1,.int .i64 0,.int .i64 0,.int .i64 1,.slice none 0 0] 65)).alloc (.cells #[.int .i64 2,.int .i64 0,.int .i64 0,.int .i64 1,.int .i64 0,.slice none 0 0,.int .i64 3,.int .i64 2,.int .i64 0,.int .i64 0,.int .i64 0,.slice none 0 0] 65)).alloc (.cells #[.slice (some ⟨w3.heap.size,0,none⟩) 2 2,.int .i64 1,.int .i64 0,.int .i64 1,.int .i64 0,.slice (some ⟨w3.heap.size+1,0,none⟩) 2 2,.int .i64 2,.int .i64 2,.int .i64 1,.int .i64 2,.slice none 0 0,.int .i64 3,.int .i64 0,.int .i64 0,.int .i64 0] 68)).heap[q+3]? = some (.cells #[.slice (some ⟨q+2,0,none⟩) 1 1,.int .i64 3,.int .i64 0,.int .i64 0,.int .i64 0] 68 (0,0))):=hid (zd ((heap_setCell_other _ _ _ _ (by have:=LS_w2.o;have:=LS_w3.o;show (q+3:Nat)≠q+4;omega)).trans H3.o) KA.o)
 have N_H5:Box (((((w3.setCell ⟨q+4,2,none⟩ (.slice (some ⟨w3.heap.size+1+1,0,none⟩) 3 3)).alloc (.cells #[.int .i64 1,.int .i64 0,.int .i64 0,.int .i64 0,.int .i64 0,.slice none 0 0,.int .i64 1,.int .i64 1,.int .i64 0,.int .i64 0,.int .i64 1,.slice none 0 0] 65)).alloc (.cells #[.int .i64 2,.int .i64 0,.int .i64 0,.int .i64 1,.int .i64 0,.slice none 0 0,.int .i64 3,.int .i64 2,.int .i64 0,.int .i64 0,.int .i64 0,.slice none 0 0] 65)).alloc (.cells #[.slice (some ⟨w3.heap.size,0,none⟩) 2 2,.int .i64 1,.int .i64 0,.int .i64 1,.int .i64 0,.slice (some ⟨w3.heap.size+1,0,none⟩) 2 2,.int .i64 2,.int .i64 2,.int .i64 1,.int .i64 2,.slice none 0 0,.int .i64 3,.int .i64 0,.int .i64 0,.int .i64 0] 68)).heap[q+5]? = some (.cells #[.slice none 0 0,.slice (some ⟨q,0,none⟩) 1 1,.slice none 0 0,.slice none 0 0,.slice (some ⟨q+4,0,none⟩) 1 1,.int .i64 0] 57 (0,0))):=hid (zd ((heap_setCell_other _ _ _ _ (by have:=LS_w2.o;have:=LS_w3.o;show (q+5:Nat)≠q+4;omega)).trans H5.o) KA.o)
 have N_HR:Box (((((w3.setCell ⟨q+4,2,none⟩ (.slice (some ⟨w3.heap.size+1+1,0,none⟩) 3 3)).alloc (.cells #[.int .i64 1,.int .i64 0,.int .i64 0,.int .i64 0,.int .i64 0,.slice none 0 0,.int .i64 1,.int .i64 1,.int .i64 0,.int .i64 0,.int .i64 1,.slice none 0 0] 65)).alloc (.cells #[.int .i64 2,.int .i64 0,.int .i64 0,.int .i64 1,.int .i64 0,.slice none 0 0,.int .i64 3,.int .i64 2,.int .i64 0,.int .i64 0,.int .i64 0,.slice none 0 0] 65)).alloc (.cells #[.slice (some ⟨w3.heap.size,0,none⟩) 2 2,.int .i64 1,.int .i64 0,.int .i64 1,.int .i64 0,.slice (some ⟨w3.heap.size+1,0,none⟩) 2 2,.int .i64 2,.int .i64 2,.int .i64 1,.int .i64 2,.slice none 0 0,.int .i64 3,.int .i64 0,.int .i64 0,.int .i64 0] 68)).heap[w2.heap.size]? = some (.cells #[.int .i64 0,.int .i64 0,.int .i64 0,.int .i64 0,.int .i64 0,.int .i64 0,.int .i64 0,.int .i64 0] 60 (0,0))):=hid (zd ((heap_setCell_other _ _ _ _ (by have:=LS_w2.o;have:=LS_w3.o;show (w2.heap.size:Nat)≠q+4;omega)).trans HR.o) KA.o)
 have N_HA:Box (((((w3.setCell ⟨q+4,2,none⟩ (.slice (some ⟨w3.heap.size+1+1,0,none⟩) 3 3)).alloc (.cells #[.int .i64 1,.int .i64 0,.int .i64 0,.int .i64 0,.int .i64 0,.slice none 0 0,.int .i64 1,.int .i64 1,.int .i64 0,.int .i64 0,.int .i64 1,.slice none 0 0] 65)).alloc (.cells #[.int .i64 2,.int .i64 0,.int .i64 0,.int .i64 1,.int .i64 0,.slice none 0 0,.int .i64 3,.int .i64 2,.int .i64 0,.int .i64 0,.int .i64 0,.slice none 0 0] 65)).alloc (.cells #[.slice (some ⟨w3.heap.size,0,none⟩) 2 2,.int .i64 1,.int .i64 0,.int .i64 1,.int .i64 0,.slice (some ⟨w3.heap.size+1,0,none⟩) 2 2,.int .i64 2,.int .i64 2,.int .i64 1,.int .i64 2,.slice none 0 0,.int .i64 3,.int .i64 0,.int .i64 0,.int .i64 0] 68)).heap[w3.heap.size]? = some (.cells #[.int .i64 1,.int .i64 0,.int .i64 0,.int .i64 0,.int .i64 0,.slice none 0 0,.int .i64 1,.int .i64 1,.int .i64 0,.int .i64 0,.int .i64 1,.slice none 0 0] 65 (0,0))):=hid (zd (ZW (w:=(w3.setCell ⟨q+4,2,none⟩ (.slice (some ⟨w3.heap.size+1+1,0,none⟩) 3 3))) (by simp)) ((za.alloc [] _ _).quiet (za.alloc [] _ _)))
 have N_HB1:Box (((((w3.setCell ⟨q+4,2,none⟩ (.slice (some ⟨w3.heap.size+1+1,0,none⟩) 3 3)).alloc (.cells #[.int .i64 1,.int .i64 0,.int .i64 0,.int .i64 0,.int .i64 0,.slice none 0 0,.int .i64 1,.int .i64 1,.int .i64 0,.int .i64 0,.int .i64 1,.slice none 0 0] 65)).alloc (.cells #[.int .i64 2,.int .i64 0,.int .i64 0,.int .i64 1,.int .i64 0,.slice none 0 0,.int .i64 3,.int .i64 2,.int .i64 0,.int .i64 0,.int .i64 0,.slice none 0 0] 65)).alloc (.cells #[.slice (some ⟨w3.heap.size,0,none⟩) 2 2,.int .i64 1,.int .i64 0,.int .i64 1,.int .i64 0,.slice (some ⟨w3.heap.size+1,0,none⟩) 2 2,.int .i64 2,.int .i64 2,.int .i64 1,.int .i64 2,.slice none 0 0,.int .i64 3,.int .i64 0,.int .i64 0,.int .i64 0] 68)).heap[w3.heap.size+1]? = some (.cells #[.int .i64 2,.int .i64 0,.int .i64 0,.int .i64 1,.int .i64 0,.slice none 0 0,.int .i64 3,.int .i64 2,.int .i64 0,.int .i64 0,.int .i64 0,.slice none 0 0] 65 (0,0))):=hid (zd (ZW (w:=((w3.setCell ⟨q+4,2,none⟩ (.slice (some ⟨w3.heap.size+1+1,0,none⟩) 3 3)).alloc (.cells #[.int .i64 1,.int .i64 0,.int .i64 0,.int .i64 0,.int .i64 0,.slice none 0 0,.int .i64 1,.int .i64 1,.int .i64 0,.int .i64 0,.int .i64 1,.slice none 0 0] 65))) (by simp)) (za.alloc [] _ _))
 have N_HD:Box (((((w3.setCell ⟨q+4,2,none⟩ (.slice (some ⟨w3.heap.size+1+1,0,none⟩) 3 3)).alloc (.cells #[.int .i64 1,.int .i64 0,.int .i64 0,.int .i64 0,.int .i64 0,.slice none 0 0,.int .i64 1,.int .i64 1,.int .i64 0,.int .i64 0,.int .i64 1,.slice none 0 0] 65)).alloc (.cells #[.int .i64 2,.int .i64 0,.int .i64 0,.int .i64 1,.int .i64 0,.slice none 0 0,.int .i64 3,.int .i64 2,.int .i64 0,.int .i64 0,.int .i64 0,.slice none 0 0] 65)).alloc (.cells #[.slice (some ⟨w3.heap.size,0,none⟩) 2 2,.int .i64 1,.int .i64 0,.int .i64 1,.int .i64 0,.slice (some ⟨w3.heap.size+1,0,none⟩) 2 2,.int .i64 2,.int .i64 2,.int .i64 1,.int .i64 2,.slice none 0 0,.int .i64 3,.int .i64 0,.int .i64 0,.int .i64 0] 68)).heap[w3.heap.size+1+1]? = some (.cells #[.slice (some ⟨w3.heap.size,0,none⟩) 2 2,.int .i64 1,.int .i64 0,.int .i64 1,.int .i64 0,.slice (some ⟨w3.heap.size+1,0,none⟩) 2 2,.int .i64 2,.int .i64 2,.int .i64 1,.int .i64 2,.slice none 0 0,.int .i64 3,.int .i64 0,.int .i64 0,.int .i64 0] 68 (0,0))):=hid (ZW (w:=(((w3.setCell ⟨q+4,2,none⟩ (.slice (some ⟨w3.heap.size+1+1,0,none⟩) 3 3)).alloc (.cells #[.int .i64 1,.int .i64 0,.int .i64 0,.int .i64 0,.int .i64 0,.slice none 0 0,.int .i64 1,.int .i64 1,.int .i64 0,.int .i64 0,.int .i64 1,.slice none 0 0] 65)).alloc (.cells #[.int .i64 2,.int .i64 0,.int .i64 0,.int .i64 1,.int .i64 0,.slice none 0 0,.int .i64 3,.int .i64 2,.int .i64 0,.int .i64 0,.int .i64 0,.slice none 0 0] 65))) (by simp))
 have N_K:Box (za [] w ((((w3.setCell ⟨q+4,2,none⟩ (.slice (some ⟨w3.heap.size+1+1,0,none⟩) 3 3)).alloc (.cells #[.int .i64 1,.int .i64 0,.int .i64 0,.int .i64 0,.int .i64 0,.slice none 0 0,.int .i64 1,.int .i64 1,.int .i64 0,.int .i64 0,.int .i64 1,.slice none 0 0] 65)).alloc (.cells #[.int .i64 2,.int .i64 0,.int .i64 0,.int .i64 1,.int .i64 0,.slice none 0 0,.int .i64 3,.int .i64 2,.int .i64 0,.int .i64 0,.int .i64 0,.slice none 0 0] 65)).alloc (.cells #[.slice (some ⟨w3.heap.size,0,none⟩) 2 2,.int .i64 1,.int .i64 0,.int .i64 1,.int .i64 0,.slice (some ⟨w3.heap.size+1,0,none⟩) 2 2,.int .i64 2,.int .i64 2,.int .i64 1,.int .i64 2,.slice none 0 0,.int .i64 3,.int .i64 0,.int .i64 0,.int .i64 0] 68))):=hid ((KW.o.trans (za.setCell [q+4] _ _ _ (List.mem_singleton.2 rfl)) (fun x hx hl=>by rw[List.mem_singleton.1 hx] at hl;have:=LQ.o;omega)).quiet KA.o)
 clear KA KW H4 H0 H1 H2 H3 H5 HR
 generalize (((w3.setCell ⟨q+4,2,none⟩ (.slice (some ⟨w3.heap.size+1+1,0,none⟩) 3 3)).alloc (.cells #[.int .i64 1,.int .i64 0,.int .i64 0,.int .i64 0,.int .i64 0,.slice none 0 0,.int .i64 1,.int .i64 1,.int .i64 0,.int .i64 0,.int .i64 1,.slice none 0 0] 65)).alloc (.cells #[.int .i64 2,.int .i64 0,.int .i64 0,.int .i64 1,.int .i64 0,.slice none 0 0,.int .i64 3,.int .i64 2,.int .i64 0,.int .i64 0,.int .i64 0,.slice none 0 0] 65)).alloc (.cells #[.slice (some ⟨w3.heap.size,0,none⟩) 2 2,.int .i64 1,.int .i64 0,.int .i64 1,.int .i64 0,.slice (some ⟨w3.heap.size+1,0,none⟩) 2 2,.int .i64 2,.int .i64 2,.int .i64 1,.int .i64 2,.slice none 0 0,.int .i64 3,.int .i64 0,.int .i64 0,.int .i64 0] 68)=w4 at *
 have H4:=N_H4
 have H0:=N_H0
 have H1:=N_H1
 have H2:=N_H2
 have H3:=N_H3
 have H5:=N_H5
 have HR:=N_HR
 have HA:=N_HA
 have HB1:=N_HB1
 have HD:=N_HD
 have KW:=N_K
 clear N_K N_H4 N_H0 N_H1 N_H2 N_H3 N_H5 N_HR N_HA N_HB1 N_HD
 have LS_w4:=hid (zt H5.o)
 clear rc0 rl0 rz0 rl0_1 rl0_2
 have PC:Box (PrC w4 (q+5) 0 prL):=hid (by
  have b0:BlC w4 (w3.heap.size+1+1) 0 ⟨[⟨1,0,0,0,0,[]⟩,⟨1,1,0,0,1,[]⟩],1,0,1,0⟩:=⟨SlC.lit2 (zc HD.o 0) (in_lit ⟨by unfold b64;decide,by unfold b64;decide,by unfold b64;decide,by unfold b64;decide,by unfold b64;decide⟩ rfl (zc HA.o 0) (zc HA.o 1) (zc HA.o 2) (zc HA.o 3) (zc HA.o 4) (zc HA.o 5)) (in_lit ⟨by unfold b64;decide,by unfold b64;decide,by unfold b64;decide,by unfold b64;decide,by unfold b64;decide⟩ rfl (zc HA.o 6) (zc HA.o 7) (zc HA.o 8) (zc HA.o 9) (zc HA.o 10) (zc HA.o 11)),zI.xof (zc HD.o 1) (by simp),zI.xof (zc HD.o 2) (by simp),zI.xof (zc HD.o 3) (by simp),zI.xof (zc HD.o 4) (by simp)⟩
  have b1:BlC w4 (w3.heap.size+1+1) 5 ⟨[⟨2,0,0,1,0,[]⟩,⟨3,2,0,0,0,[]⟩],2,2,1,2⟩:=⟨SlC.lit2 (zc HD.o 5) (in_lit ⟨by unfold b64;decide,by unfold b64;decide,by unfold b64;decide,by unfold b64;decide,by unfold b64;decide⟩ rfl (zc HB1.o 0) (zc HB1.o 1) (zc HB1.o 2) (zc HB1.o 3) (zc HB1.o 4) (zc HB1.o 5)) (in_lit ⟨by unfold b64;decide,by unfold b64;decide,by unfold b64;decide,by unfold b64;decide,by unfold b64;decide⟩ rfl (zc HB1.o 6) (zc HB1.o 7) (zc HB1.o 8) (zc HB1.o 9) (zc HB1.o 10) (zc HB1.o 11)),zI.xof (zc HD.o 6) (by simp),zI.xof (zc HD.o 7) (by simp),zI.xof (zc HD.o 8) (by simp),zI.xof (zc HD.o 9) (by simp)⟩
  have b2:BlC w4 (w3.heap.size+1+1) (2 * 5) ⟨[],3,0,0,0⟩:=⟨SlC.xnone (zc HD.o 10),zI.xof (zc HD.o 11) (by simp),zI.xof (zc HD.o 12) (by simp),zI.xof (zc HD.o 13) (by simp),zI.xof (zc HD.o 14) (by simp)⟩
  have t0:TyC w4 w2.heap.size 0 (0,0):=⟨zI.xof (zc HR.o 0) (by simp),zI.xof (zc HR.o 1) (by simp)⟩
  have t1:TyC w4 w2.heap.size 2 (0,0):=⟨zI.xof (zc HR.o 2) (by simp),zI.xof (zc HR.o 3) (by simp)⟩
  have t2:TyC w4 w2.heap.size (2 * 2) (0,0):=⟨zI.xof (zc HR.o 4) (by simp),zI.xof (zc HR.o 5) (by simp)⟩
  have t3:TyC w4 w2.heap.size (3 * 2) (0,0):=⟨zI.xof (zc HR.o 6) (by simp),zI.xof (zc HR.o 7) (by simp)⟩
  have f:FuC w4 (q+4) 0 ⟨0,[(0,0),(0,0),(0,0),(0,0)],[⟨[⟨1,0,0,0,0,[]⟩,⟨1,1,0,0,1,[]⟩],1,0,1,0⟩,⟨[⟨2,0,0,1,0,[]⟩,⟨3,2,0,0,0,[]⟩],2,2,1,2⟩,⟨[],3,0,0,0⟩]⟩:=⟨zI.xof (zc H4.o 0) (by simp),SlC.lit4 (zc H4.o 1) t0 t1 t2 t3,SlC.lit3 (zc H4.o 2) b0 b1 b2⟩
  exact ⟨SlC.xnone (zc H5.o 0),SlC.one (zc H5.o 1) (show SgC _ q 0 ([],0,0) from ⟨SlC.xnone (zc H0.o 0),zI.xof (zc H0.o 1) (by simp),zI.xof (zc H0.o 2) (by simp)⟩),SlC.xnone (zc H5.o 2),SlC.xnone (zc H5.o 3),SlC.one (zc H5.o 4) f,zI.xof (zc H5.o 5) (by simp[prL])⟩)
 clear H0 H1 H2 H3 H4 H5 HR HA HB1 HD mk
 go_wp2_with fail
 go_loopw [6,7] (fun ov iv wr=>∃ k:Nat,k≤n∧iv=.int .i64 (k:Int)∧Box (wr.ownsRow w4.heap.size 2 1 ov (List.replicate k (5:Int)).length (Qd (List.replicate k 5)))∧Box (za [] w4 wr)) (fun _ iv _=>n - (intOf iv).toNat)
 case atStart=>exact ⟨0,by omega,rfl,hid (World.ownsRow_nil _ _ _ _),hid (za.refl _ _)⟩
 case round=>
  obtain ⟨k,hk,rfl,HR,HK⟩:=hrel
  by_cases hlt:k<n
  ·have hlt':(k:Int)<(n:Int):=by omega
   have hks:=HK.o.size
   have hll:(List.replicate k (5:Int)).length=k:=List.length_replicate
   go_wp2_with (at_builtin;go_must (refine wpList_append_own _ rfl _ _ 23 rfl w4.heap.size 2 Tryz.t2 (.int .i64 0) 1 8 under_i64s info_i64 zero_i64 size_i64 bytes_i64 rfl (by decide) _ _ _ rfl (HR.o.alloc _) ⟨wr.heap.size,0,none⟩ 1 1 [.int .i64 5] rfl rfl (World.news_of_block (cs:=#[.int .i64 5]) (t:=2) (fr:=(0,0)) (ze wr _)) (fun u hu=>by rw[List.mem_singleton.1 hu];rfl) (by rw[hll];unfold maxLen;omega) (by rw[hll];omega) (by simp;omega) ?_;intro v' w5 hown5 hgrow5 hnil5))
   have HK5:Box (za [] w4 w5):=hid ((HK.o.quiet (za.alloc [] wr _)).appended HR.o hgrow5 (Nat.le_refl _))
   have HO5:Box (w5.ownsRow w4.heap.size 2 1 v' (List.replicate (k+1) (5:Int)).length (Qd (List.replicate (k+1) 5))):=hid (by
    have e:List.replicate (k+1) (5:Int)=List.replicate k 5 ++ [5]:=by rw[List.replicate_succ']
    rw[e,List.length_append]
    unfold Qd at hown5 ⊢
    rw[List.map_append]
    exact hown5)
   clear hgrow5 hnil5 hown5 HR HK
   go_wp2_with fail
   go_roundw
   case rel=>exact ⟨k+1,by omega,by go_num,HO5,HK5⟩
   case measure=>simp[intOf];omega
  ·obtain rfl:n=k:=by omega
   obtain ⟨a,cp,rfl,RO⟩:=own_nums HR.o (fun z hz=>by rw[(List.mem_replicate.1 hz).2];unfold b64;decide)
   have R:=hid (zmH (l:=List.replicate n 5) (cp:=cp) (PrC.stays _ _ _ _ _ HK.o PC.o) (HG.o.quiet (KW.o.quiet HK.o)) (HT.o.kept (KW.o.quiet HK.o) (by simp)) wf_prL sm_prL RO (by rw[List.length_replicate];omega))
   have K5':=hid (KW.o.quiet HK.o)
   obtain ⟨r1,r2⟩:=brL n hn
   generalize Zi prL 3000 (ma0 prL (List.replicate n 5))=r at *
   obtain ⟨y,m⟩:=r
   have r1:y=4:=r1
   have r2:m.res=(0,(n:Int)+1,false):=r2
   subst r1
   have R2:=hid r2
   generalize (List.replicate n (5:Int)).length=ln at *
   clear HR HK RO PC KW r2
   go_wp2_with fail
   refine R.o.mono ?_
   rintro e w6 ⟨mp,F,rfl,m6,k6, -⟩
   have M6:Box (Q4 w6 mp prL m F):=hid m6
   have K6:=hid (K5'.o.quiet k6)
   have f1:=fun (x y z:Value)=>zno x y z
   clear m6 k6 R K5'
   go_wp2_with fail
   refine (zbx M6.o).mono ?_
   rintro e w7 ⟨rfl,k7⟩
   have K7:=hid (K6.o.quiet k7)
   clear k7 M6
   rw[R2.o]
   unfold vlV
   go_wp2_with fail
   go_ret
   exact ⟨rfl,K7.o⟩
theorem semLoop_walk(n:Int)(w:World)(hg:zbq w)(hT:jb w)(_:b64 n):Calls Tryz.prog 9 #[.int .i64 n] w fun e w'=>e=.returned (.bool true)∧za [] w w':=by
 by_cases h:n<0∨100<n
 ·exact semLoop_out n w hg hT h
 ·obtain ⟨k,rfl⟩:∃ k:Nat,n=(k:Int):=⟨n.toNat,by omega⟩
  exact semLoop_in k w hg hT (by omega)
end Go.Proofs.YtgmbkiagdhjpnaaGreatDoor
