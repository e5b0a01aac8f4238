/-
  SemBranch, the walk.
-/
import Derived.Test.YtgmbkiagdhjpnaaGreatDoorUSLit
namespace Go.Proofs.YtgmbkiagdhjpnaaGreatDoor
open Go.RowKit
theorem wf_prB:wfO prB=none:=by decide +kernel
theorem sm_prB:Sm8 prB:=⟨by decide,by decide,by decide⟩
set_option maxRecDepth 20000 in
set_option maxHeartbeats 4000000 in
theorem semBranch_walk(n:Int)(w:World)(hg:zbq w)(hT:jb w)(hn:b64 n):Calls Tryz.prog 8 #[.int .i64 n] w fun e w'=>e=.returned (.bool true)∧za [] w w':=by
 have HG:=hid hg
 have HT:=hid hT
 have HB:=hid hn
 have mk:=mk_ty2
 clear hg hT hn
 go_enter Tryz.func8,Tryz.ntmps8
 go_wp2_with fail
 refine (zbs w HG.o HT.o).mono ?_
 rintro e w1 ⟨rfl,k1⟩
 have K1:=hid k1
 clear k1
 go_wp2_with fail
 refine (zjv w1).mono ?_
 rintro e w2 ⟨rfl,o2,k2⟩
 have KW:=hid (K1.o.quiet k2)
 obtain ⟨q,hq⟩:∃ q,q=w1.heap.size:=⟨_,rfl⟩
 rw[← hq] at o2 ⊢
 have LQ:Box (w.heap.size≤q):=hid (by rw[hq];exact K1.o.size)
 have H0:=hid o2.h0
 have H1:=hid o2.h1
 have H2:=hid o2.h2
 have H3:=hid o2.h3
 have H4:=hid o2.h4
 have H5:=hid o2.h5
 have LS_w2:=hid (zt H5.o)
 clear o2 k2 hq K1
 have rc0:=zc H5.o 4
 have rl0:=zt H5.o
 have rc1:=zc H4.o 1
 have rz1:=zg H4.o 1
 have rl1:=zt H4.o
 go_upto_region 7 with fail
 have KA:Box (za [] (w2.setCell ⟨q+4,1,none⟩ (.slice (some ⟨w2.heap.size,0,none⟩) 2 2)) ((w2.setCell ⟨q+4,1,none⟩ (.slice (some ⟨w2.heap.size,0,none⟩) 2 2)).alloc (.cells #[.int .i64 0,.int .i64 0,.int .i64 0,.int .i64 0] 60))):=hid (za.alloc [] _ _)
 have N_H4:Box (((w2.setCell ⟨q+4,1,none⟩ (.slice (some ⟨w2.heap.size,0,none⟩) 2 2)).alloc (.cells #[.int .i64 0,.int .i64 0,.int .i64 0,.int .i64 0] 60)).heap[q+4]? = some (.cells #[.int .i64 0,.slice (some ⟨w2.heap.size,0,none⟩) 2 2,.slice (some ⟨q+3,0,none⟩) 1 1] 50 (0,0))):=hid (zd (heap_setCell_same _ _ 1 _ _ _ H4.o) KA.o)
 have N_H0:Box (((w2.setCell ⟨q+4,1,none⟩ (.slice (some ⟨w2.heap.size,0,none⟩) 2 2)).alloc (.cells #[.int .i64 0,.int .i64 0,.int .i64 0,.int .i64 0] 60)).heap[q]? = some (.cells #[.slice none 0 0,.int .i64 0,.int .i64 0] 75 (0,0))):=hid (zd ((heap_setCell_other _ _ _ _ (by have:=LS_w2.o;show (q:Nat)≠q+4;omega)).trans H0.o) KA.o)
 have N_H1:Box (((w2.setCell ⟨q+4,1,none⟩ (.slice (some ⟨w2.heap.size,0,none⟩) 2 2)).alloc (.cells #[.int .i64 0,.int .i64 0,.int .i64 0,.int .i64 0] 60)).heap[q+1]? = some (.cells #[.int .i64 0,.int .i64 0] 60 (0,0))):=hid (zd ((heap_setCell_other _ _ _ _ (by have:=LS_w2.o;show (q+1:Nat)≠q+4;omega)).trans H1.o) KA.o)
 have N_H2:Box (((w2.setCell ⟨q+4,1,none⟩ (.slice (some ⟨w2.heap.size,0,none⟩) 2 2)).alloc (.cells #[.int .i64 0,.int .i64 0,.int .i64 0,.int .i64 0] 60)).heap[q+2]? = some (.cells #[.int .i64 1,.int .i64 0,.int .i64 0,.int .i64 0,.int .i64 7,.slice none 0 0] 65 (0,0))):=hid (zd ((heap_setCell_other _ _ _ _ (by have:=LS_w2.o;show (q+2:Nat)≠q+4;omega)).trans H2.o) KA.o)
 have N_H3:Box (((w2.setCell ⟨q+4,1,none⟩ (.slice (some ⟨w2.heap.size,0,none⟩) 2 2)).alloc (.cells #[.int .i64 0,.int .i64 0,.int .i64 0,.int .i64 0] 60)).heap[q+3]? = some (.cells #[.slice (some ⟨q+2,0,none⟩) 1 1,.int .i64 3,.int .i64 0,.int .i64 0,.int .i64 0] 68 (0,0))):=hid (zd ((heap_setCell_other _ _ _ _ (by have:=LS_w2.o;show (q+3:Nat)≠q+4;omega)).trans H3.o) KA.o)
 have N_H5:Box (((w2.setCell ⟨q+4,1,none⟩ (.slice (some ⟨w2.heap.size,0,none⟩) 2 2)).alloc (.cells #[.int .i64 0,.int .i64 0,.int .i64 0,.int .i64 0] 60)).heap[q+5]? = some (.cells #[.slice none 0 0,.slice (some ⟨q,0,none⟩) 1 1,.slice none 0 0,.slice none 0 0,.slice (some ⟨q+4,0,none⟩) 1 1,.int .i64 0] 57 (0,0))):=hid (zd ((heap_setCell_other _ _ _ _ (by have:=LS_w2.o;show (q+5:Nat)≠q+4;omega)).trans H5.o) KA.o)
 have N_HR:Box (((w2.setCell ⟨q+4,1,none⟩ (.slice (some ⟨w2.heap.size,0,none⟩) 2 2)).alloc (.cells #[.int .i64 0,.int .i64 0,.int .i64 0,.int .i64 0] 60)).heap[w2.heap.size]? = some (.cells #[.int .i64 0,.int .i64 0,.int .i64 0,.int .i64 0] 60 (0,0))):=hid (ZW (w:=(w2.setCell ⟨q+4,1,none⟩ (.slice (some ⟨w2.heap.size,0,none⟩) 2 2))) (by simp))
 have N_K:Box (za [] w ((w2.setCell ⟨q+4,1,none⟩ (.slice (some ⟨w2.heap.size,0,none⟩) 2 2)).alloc (.cells #[.int .i64 0,.int .i64 0,.int .i64 0,.int .i64 0] 60))):=hid ((KW.o.trans (za.setCell [q+4] _ _ _ (List.mem_singleton.2 rfl)) (fun x hx hl=>by rw[List.mem_singleton.1 hx] at hl;have:=LQ.o;omega)).quiet KA.o)
 clear KA KW H0 H1 H2 H3 H4 H5
 generalize (w2.setCell ⟨q+4,1,none⟩ (.slice (some ⟨w2.heap.size,0,none⟩) 2 2)).alloc (.cells #[.int .i64 0,.int .i64 0,.int .i64 0,.int .i64 0] 60)=w3 at *
 have H4:=N_H4
 have H0:=N_H0
 have H1:=N_H1
 have H2:=N_H2
 have H3:=N_H3
 have H5:=N_H5
 have HR:=N_HR
 have KW:=N_K
 clear N_K N_H4 N_H0 N_H1 N_H2 N_H3 N_H5 N_HR
 have LS_w3:=hid (zt H5.o)
 clear rc0 rl0 rc1 rl1 rz1
 have rc0:=zc H4.o 2
 have rz0:=zg H4.o 2
 have rl0:=zt H4.o
 have rl0_1:q+4<w3.heap.size+1:=by omega
 have rl0_2:q+4<w3.heap.size+1+1:=by omega
 have rl0_3:q+4<w3.heap.size+1+1+1:=by omega
 go_upto_region 8 with fail
 have KA:Box (za [] (w3.setCell ⟨q+4,2,none⟩ (.slice (some ⟨w3.heap.size+1+1+1,0,none⟩) 3 3)) (((((w3.setCell ⟨q+4,2,none⟩ (.slice (some ⟨w3.heap.size+1+1+1,0,none⟩) 3 3)).alloc (.cells #[.int .i64 3,.int .i64 0,.int .i64 0,.int .i64 0,.int .i64 0,.slice none 0 0] 65)).alloc (.cells #[.int .i64 1,.int .i64 1,.int .i64 0,.int .i64 0,.int .i64 11,.slice none 0 0] 65)).alloc (.cells #[.int .i64 1,.int .i64 1,.int .i64 0,.int .i64 0,.int .i64 22,.slice none 0 0] 65)).alloc (.cells #[.slice (some ⟨w3.heap.size,0,none⟩) 1 1,.int .i64 2,.int .i64 0,.int .i64 1,.int .i64 2,.slice (some ⟨w3.heap.size+1,0,none⟩) 1 1,.int .i64 3,.int .i64 1,.int .i64 0,.int .i64 0,.slice (some ⟨w3.heap.size+1+1,0,none⟩) 1 1,.int .i64 3,.int .i64 1,.int .i64 0,.int .i64 0] 68))):=hid ((((za.alloc [] _ _).quiet (za.alloc [] _ _)).quiet (za.alloc [] _ _)).quiet (za.alloc [] _ _))
 have N_H4:Box ((((((w3.setCell ⟨q+4,2,none⟩ (.slice (some ⟨w3.heap.size+1+1+1,0,none⟩) 3 3)).alloc (.cells #[.int .i64 3,.int .i64 0,.int .i64 0,.int .i64 0,.int .i64 0,.slice none 0 0] 65)).alloc (.cells #[.int .i64 1,.int .i64 1,.int .i64 0,.int .i64 0,.int .i64 11,.slice none 0 0] 65)).alloc (.cells #[.int .i64 1,.int .i64 1,.int .i64 0,.int .i64 0,.int .i64 22,.slice none 0 0] 65)).alloc (.cells #[.slice (some ⟨w3.heap.size,0,none⟩) 1 1,.int .i64 2,.int .i64 0,.int .i64 1,.int .i64 2,.slice (some ⟨w3.heap.size+1,0,none⟩) 1 1,.int .i64 3,.int .i64 1,.int .i64 0,.int .i64 0,.slice (some ⟨w3.heap.size+1+1,0,none⟩) 1 1,.int .i64 3,.int .i64 1,.int .i64 0,.int .i64 0] 68)).heap[q+4]? = some (.cells #[.int .i64 0,.slice (some ⟨w2.heap.size,0,none⟩) 2 2,.slice (some ⟨w3.heap.size+1+1+1,0,none⟩) 3 3] 50 (0,0))):=hid (zd (heap_setCell_same _ _ 2 _ _ _ H4.o) KA.o)
 have N_H0:Box ((((((w3.setCell ⟨q+4,2,none⟩ (.slice (some ⟨w3.heap.size+1+1+1,0,none⟩) 3 3)).alloc (.cells #[.int .i64 3,.int .i64 0,.int .i64 0,.int .i64 0,.int .i64 0,.slice none 0 0] 65)).alloc (.cells #[.int .i64 1,.int .i64 1,.int .i64 0,.int .i64 0,.int .i64 11,.slice none 0 0] 65)).alloc (.cells #[.int .i64 1,.int .i64 1,.int .i64 0,.int .i64 0,.int .i64 22,.slice none 0 0] 65)).alloc (.cells #[.slice (some ⟨w3.heap.size,0,none⟩) 1 1,.int .i64 2,.int .i64 0,.int .i64 1,.int .i64 2,.slice (some ⟨w3.heap.size+1,0,none⟩) 1 1,.int .i64 3,.int .i64 1,.int .i64 0,.int .i64 0,.slice (some ⟨w3.heap.size+1+1,0,none⟩) 1 1,.int .i64 3,.int .i64 1,.int .i64 0,.int .i64 0] 68)).heap[q]? = some (.cells #[.slice none 0 0,.int .i64 0,.int .i64 0] 75 (0,0))):=hid (zd ((heap_setCell_other _ _ _ _ (by have:=LS_w2.o;have:=LS_w3.o;show (q:Nat)≠q+4;omega)).trans H0.o) KA.o)
 have N_H1:Box ((((((w3.setCell ⟨q+4,2,none⟩ (.slice (some ⟨w3.heap.size+1+1+1,0,none⟩) 3 3)).alloc (.cells #[.int .i64 3,.int .i64 0,.int .i64 0,.int .i64 0,.int .i64 0,.slice none 0 0] 65)).alloc (.cells #[.int .i64 1,.int .i64 1,.int .i64 0,.int .i64 0,.int .i64 11,.slice none 0 0] 65)).alloc (.cells #[.int .i64 1,.int .i64 1,.int .i64 0,.int .i64 0,.int .i64 22,.slice none 0 0] 65)).alloc (.cells #[.slice (some ⟨w3.heap.size,0,none⟩) 1 1,.int .i64 2,.int .i64 0,.int .i64 1,.int .i64 2,.slice (some ⟨w3.heap.size+1,0,none⟩) 1 1,.int .i64 3,.int .i64 1,.int .i64 0,.int .i64 0,.slice (some ⟨w3.heap.size+1+1,0,none⟩) 1 1,.int .i64 3,.int .i64 1,.int .i64 0,.int .i64 0] 68)).heap[q+1]? = some (.cells #[.int .i64 0,.int .i64 0] 60 (0,0))):=hid (zd ((heap_setCell_other _ _ _ _ (by have:=LS_w2.o;have:=LS_w3.o;show (q+1:Nat)≠q+4;omega)).trans H1.o) KA.o)
 have N_H2:Box ((((((w3.setCell ⟨q+4,2,none⟩ (.slice (some ⟨w3.heap.size+1+1+1,0,none⟩) 3 3)).alloc (.cells #[.int .i64 3,.int .i64 0,.int .i64 0,.int .i64 0,.int .i64 0,.slice none 0 0] 65)).alloc (.cells #[.int .i64 1,.int .i64 1,.int .i64 0,.int .i64 0,.int .i64 11,.slice none 0 0] 65)).alloc (.cells #[.int .i64 1,.int .i64 1,.int .i64 0,.int .i64 0,.int .i64 22,.slice none 0 0] 65)).alloc (.cells #[.slice (some ⟨w3.heap.size,0,none⟩) 1 1,.int .i64 2,.int .i64 0,.int .i64 1,.int .i64 2,.slice (some ⟨w3.heap.size+1,0,none⟩) 1 1,.int .i64 3,.int .i64 1,.int .i64 0,.int .i64 0,.slice (some ⟨w3.heap.size+1+1,0,none⟩) 1 1,.int .i64 3,.int .i64 1,.int .i64 0,.int .i64 0] 68)).heap[q+2]? = some (.cells #[.int .i64 1,.int .i64 0,.int .i64 0,.int .i64 0,.int .i64 7,.slice none 0 0] 65 (0,0))):=hid (zd ((heap_setCell_other _ _ _ _ (by have:=LS_w2.o;have:=LS_w3.o;show (q+2:Nat)≠q+4;omega)).trans H2.o) KA.o)
 have N_H3:Box ((((((w3.setCell ⟨q+4,2,none⟩ (.slice (some ⟨w3.heap.size+1+1+1,0,none⟩) 3 3)).alloc (.cells #[.int .i64 3,.int .i64 0,.int .i64 0,.int .i64 0,.int .i64 0,.slice none 0 0] 65)).alloc (.cells #[.int .i64 1,.int .i64 1,.int .i64 0,.int .i64 0,.int .i64 11,.slice none 0 0] 65)).alloc (.cells #[.int .i64 1,.int .i64 1,.int .i64 0,.int .i64 0,.int .i64 22,.slice none 0 0] 65)).alloc (.cells #[.slice (some ⟨w3.heap.size,0,none⟩) 1 1,.int .i64 2,.int .i64 0,.int .i64 1,.int .i64 2,.slice (some ⟨w3.heap.size+1,0,none⟩) 1 1,.int .i64 3,.int .i64 1,.int .i64 0,.int .i64 0,.slice (some ⟨w3.heap.size+1+1,0,none⟩) 1 1,.int .i64 3,.int .i64 1,.int .i64 0,.int .i64 0] 68)).heap[q+3]? = some (.cells #[.slice (some ⟨q+2,0,none⟩) 1 1,.int .i64 3,.int .i64 0,.int .i64 0,.int .i64 0] 68 (0,0))):=hid (zd ((heap_setCell_other _ _ _ _ (by have:=LS_w2.o;have:=LS_w3.o;show (q+3:Nat)≠q+4;omega)).trans H3.o) KA.o)
 have N_H5:Box ((((((w3.setCell ⟨q+4,2,none⟩ (.slice (some ⟨w3.heap.size+1+1+1,0,none⟩) 3 3)).alloc (.cells #[.int .i64 3,.int .i64 0,.int .i64 0,.int .i64 0,.int .i64 0,.slice none 0 0] 65)).alloc (.cells #[.int .i64 1,.int .i64 1,.int .i64 0,.int .i64 0,.int .i64 11,.slice none 0 0] 65)).alloc (.cells #[.int .i64 1,.int .i64 1,.int .i64 0,.int .i64 0,.int .i64 22,.slice none 0 0] 65)).alloc (.cells #[.slice (some ⟨w3.heap.size,0,none⟩) 1 1,.int .i64 2,.int .i64 0,.int .i64 1,.int .i64 2,.slice (some ⟨w3.heap.size+1,0,none⟩) 1 1,.int .i64 3,.int .i64 1,.int .i64 0,.int .i64 0,.slice (some ⟨w3.heap.size+1+1,0,none⟩) 1 1,.int .i64 3,.int .i64 1,.int .i64 0,.int .i64 0] 68)).heap[q+5]? = some (.cells #[.slice none 0 0,.slice (some ⟨q,0,none⟩) 1 1,.slice none 0 0,.slice none 0 0,.slice (some ⟨q+4,0,none⟩) 1 1,.int .i64 0] 57 (0,0))):=hid (zd ((heap_setCell_other _ _ _ _ (by have:=LS_w2.o;have:=LS_w3.o;show (q+5:Nat)≠q+4;omega)).trans H5.o) KA.o)
 have N_HR:Box ((((((w3.setCell ⟨q+4,2,none⟩ (.slice (some ⟨w3.heap.size+1+1+1,0,none⟩) 3 3)).alloc (.cells #[.int .i64 3,.int .i64 0,.int .i64 0,.int .i64 0,.int .i64 0,.slice none 0 0] 65)).alloc (.cells #[.int .i64 1,.int .i64 1,.int .i64 0,.int .i64 0,.int .i64 11,.slice none 0 0] 65)).alloc (.cells #[.int .i64 1,.int .i64 1,.int .i64 0,.int .i64 0,.int .i64 22,.slice none 0 0] 65)).alloc (.cells #[.slice (some ⟨w3.heap.size,0,none⟩) 1 1,.int .i64 2,.int .i64 0,.int .i64 1,.int .i64 2,.slice (some ⟨w3.heap.size+1,0,none⟩) 1 1,.int .i64 3,.int .i64 1,.int .i64 0,.int .i64 0,.slice (some ⟨w3.heap.size+1+1,0,none⟩) 1 1,.int .i64 3,.int .i64 1,.int .i64 0,.int .i64 0] 68)).heap[w2.heap.size]? = some (.cells #[.int .i64 0,.int .i64 0,.int .i64 0,.int .i64 0] 60 (0,0))):=hid (zd ((heap_setCell_other _ _ _ _ (by have:=LS_w2.o;have:=LS_w3.o;show (w2.heap.size:Nat)≠q+4;omega)).trans HR.o) KA.o)
 have N_HA:Box ((((((w3.setCell ⟨q+4,2,none⟩ (.slice (some ⟨w3.heap.size+1+1+1,0,none⟩) 3 3)).alloc (.cells #[.int .i64 3,.int .i64 0,.int .i64 0,.int .i64 0,.int .i64 0,.slice none 0 0] 65)).alloc (.cells #[.int .i64 1,.int .i64 1,.int .i64 0,.int .i64 0,.int .i64 11,.slice none 0 0] 65)).alloc (.cells #[.int .i64 1,.int .i64 1,.int .i64 0,.int .i64 0,.int .i64 22,.slice none 0 0] 65)).alloc (.cells #[.slice (some ⟨w3.heap.size,0,none⟩) 1 1,.int .i64 2,.int .i64 0,.int .i64 1,.int .i64 2,.slice (some ⟨w3.heap.size+1,0,none⟩) 1 1,.int .i64 3,.int .i64 1,.int .i64 0,.int .i64 0,.slice (some ⟨w3.heap.size+1+1,0,none⟩) 1 1,.int .i64 3,.int .i64 1,.int .i64 0,.int .i64 0] 68)).heap[w3.heap.size]? = some (.cells #[.int .i64 3,.int .i64 0,.int .i64 0,.int .i64 0,.int .i64 0,.slice none 0 0] 65 (0,0))):=hid (zd (ZW (w:=(w3.setCell ⟨q+4,2,none⟩ (.slice (some ⟨w3.heap.size+1+1+1,0,none⟩) 3 3))) (by simp)) (((za.alloc [] _ _).quiet (za.alloc [] _ _)).quiet (za.alloc [] _ _)))
 have N_HB1:Box ((((((w3.setCell ⟨q+4,2,none⟩ (.slice (some ⟨w3.heap.size+1+1+1,0,none⟩) 3 3)).alloc (.cells #[.int .i64 3,.int .i64 0,.int .i64 0,.int .i64 0,.int .i64 0,.slice none 0 0] 65)).alloc (.cells #[.int .i64 1,.int .i64 1,.int .i64 0,.int .i64 0,.int .i64 11,.slice none 0 0] 65)).alloc (.cells #[.int .i64 1,.int .i64 1,.int .i64 0,.int .i64 0,.int .i64 22,.slice none 0 0] 65)).alloc (.cells #[.slice (some ⟨w3.heap.size,0,none⟩) 1 1,.int .i64 2,.int .i64 0,.int .i64 1,.int .i64 2,.slice (some ⟨w3.heap.size+1,0,none⟩) 1 1,.int .i64 3,.int .i64 1,.int .i64 0,.int .i64 0,.slice (some ⟨w3.heap.size+1+1,0,none⟩) 1 1,.int .i64 3,.int .i64 1,.int .i64 0,.int .i64 0] 68)).heap[w3.heap.size+1]? = some (.cells #[.int .i64 1,.int .i64 1,.int .i64 0,.int .i64 0,.int .i64 11,.slice none 0 0] 65 (0,0))):=hid (zd (ZW (w:=((w3.setCell ⟨q+4,2,none⟩ (.slice (some ⟨w3.heap.size+1+1+1,0,none⟩) 3 3)).alloc (.cells #[.int .i64 3,.int .i64 0,.int .i64 0,.int .i64 0,.int .i64 0,.slice none 0 0] 65))) (by simp)) ((za.alloc [] _ _).quiet (za.alloc [] _ _)))
 have N_HC:Box ((((((w3.setCell ⟨q+4,2,none⟩ (.slice (some ⟨w3.heap.size+1+1+1,0,none⟩) 3 3)).alloc (.cells #[.int .i64 3,.int .i64 0,.int .i64 0,.int .i64 0,.int .i64 0,.slice none 0 0] 65)).alloc (.cells #[.int .i64 1,.int .i64 1,.int .i64 0,.int .i64 0,.int .i64 11,.slice none 0 0] 65)).alloc (.cells #[.int .i64 1,.int .i64 1,.int .i64 0,.int .i64 0,.int .i64 22,.slice none 0 0] 65)).alloc (.cells #[.slice (some ⟨w3.heap.size,0,none⟩) 1 1,.int .i64 2,.int .i64 0,.int .i64 1,.int .i64 2,.slice (some ⟨w3.heap.size+1,0,none⟩) 1 1,.int .i64 3,.int .i64 1,.int .i64 0,.int .i64 0,.slice (some ⟨w3.heap.size+1+1,0,none⟩) 1 1,.int .i64 3,.int .i64 1,.int .i64 0,.int .i64 0] 68)).heap[w3.heap.size+1+1]? = some (.cells #[.int .i64 1,.int .i64 1,.int .i64 0,.int .i64 0,.int .i64 22,.slice none 0 0] 65 (0,0))):=hid (zd (ZW (w:=(((w3.setCell ⟨q+4,2,none⟩ (.slice (some ⟨w3.heap.size+1+1+1,0,none⟩) 3 3)).alloc (.cells #[.int .i64 3,.int .i64 0,.int .i64 0,.int .i64 0,.int .i64 0,.slice none 0 0] 65)).alloc (.cells #[.int .i64 1,.int .i64 1,.int .i64 0,.int .i64 0,.int .i64 11,.slice none 0 0] 65))) (by simp)) (za.alloc [] _ _))
 have N_HD:Box ((((((w3.setCell ⟨q+4,2,none⟩ (.slice (some ⟨w3.heap.size+1+1+1,0,none⟩) 3 3)).alloc (.cells #[.int .i64 3,.int .i64 0,.int .i64 0,.int .i64 0,.int .i64 0,.slice none 0 0] 65)).alloc (.cells #[.int .i64 1,.int .i64 1,.int .i64 0,.int .i64 0,.int .i64 11,.slice none 0 0] 65)).alloc (.cells #[.int .i64 1,.int .i64 1,.int .i64 0,.int .i64 0,.int .i64 22,.slice none 0 0] 65)).alloc (.cells #[.slice (some ⟨w3.heap.size,0,none⟩) 1 1,.int .i64 2,.int .i64 0,.int .i64 1,.int .i64 2,.slice (some ⟨w3.heap.size+1,0,none⟩) 1 1,.int .i64 3,.int .i64 1,.int .i64 0,.int .i64 0,.slice (some ⟨w3.heap.size+1+1,0,none⟩) 1 1,.int .i64 3,.int .i64 1,.int .i64 0,.int .i64 0] 68)).heap[w3.heap.size+1+1+1]? = some (.cells #[.slice (some ⟨w3.heap.size,0,none⟩) 1 1,.int .i64 2,.int .i64 0,.int .i64 1,.int .i64 2,.slice (some ⟨w3.heap.size+1,0,none⟩) 1 1,.int .i64 3,.int .i64 1,.int .i64 0,.int .i64 0,.slice (some ⟨w3.heap.size+1+1,0,none⟩) 1 1,.int .i64 3,.int .i64 1,.int .i64 0,.int .i64 0] 68 (0,0))):=hid (ZW (w:=((((w3.setCell ⟨q+4,2,none⟩ (.slice (some ⟨w3.heap.size+1+1+1,0,none⟩) 3 3)).alloc (.cells #[.int .i64 3,.int .i64 0,.int .i64 0,.int .i64 0,.int .i64 0,.slice none 0 0] 65)).alloc (.cells #[.int .i64 1,.int .i64 1,.int .i64 0,.int .i64 0,.int .i64 11,.slice none 0 0] 65)).alloc (.cells #[.int .i64 1,.int .i64 1,.int .i64 0,.int .i64 0,.int .i64 22,.slice none 0 0] 65))) (by simp))
 have N_K:Box (za [] w (((((w3.setCell ⟨q+4,2,none⟩ (.slice (some ⟨w3.heap.size+1+1+1,0,none⟩) 3 3)).alloc (.cells #[.int .i64 3,.int .i64 0,.int .i64 0,.int .i64 0,.int .i64 0,.slice none 0 0] 65)).alloc (.cells #[.int .i64 1,.int .i64 1,.int .i64 0,.int .i64 0,.int .i64 11,.slice none 0 0] 65)).alloc (.cells #[.int .i64 1,.int .i64 1,.int .i64 0,.int .i64 0,.int .i64 22,.slice none 0 0] 65)).alloc (.cells #[.slice (some ⟨w3.heap.size,0,none⟩) 1 1,.int .i64 2,.int .i64 0,.int .i64 1,.int .i64 2,.slice (some ⟨w3.heap.size+1,0,none⟩) 1 1,.int .i64 3,.int .i64 1,.int .i64 0,.int .i64 0,.slice (some ⟨w3.heap.size+1+1,0,none⟩) 1 1,.int .i64 3,.int .i64 1,.int .i64 0,.int .i64 0] 68))):=hid ((KW.o.trans (za.setCell [q+4] _ _ _ (List.mem_singleton.2 rfl)) (fun x hx hl=>by rw[List.mem_singleton.1 hx] at hl;have:=LQ.o;omega)).quiet KA.o)
 clear KA KW H4 H0 H1 H2 H3 H5 HR
 generalize ((((w3.setCell ⟨q+4,2,none⟩ (.slice (some ⟨w3.heap.size+1+1+1,0,none⟩) 3 3)).alloc (.cells #[.int .i64 3,.int .i64 0,.int .i64 0,.int .i64 0,.int .i64 0,.slice none 0 0] 65)).alloc (.cells #[.int .i64 1,.int .i64 1,.int .i64 0,.int .i64 0,.int .i64 11,.slice none 0 0] 65)).alloc (.cells #[.int .i64 1,.int .i64 1,.int .i64 0,.int .i64 0,.int .i64 22,.slice none 0 0] 65)).alloc (.cells #[.slice (some ⟨w3.heap.size,0,none⟩) 1 1,.int .i64 2,.int .i64 0,.int .i64 1,.int .i64 2,.slice (some ⟨w3.heap.size+1,0,none⟩) 1 1,.int .i64 3,.int .i64 1,.int .i64 0,.int .i64 0,.slice (some ⟨w3.heap.size+1+1,0,none⟩) 1 1,.int .i64 3,.int .i64 1,.int .i64 0,.int .i64 0] 68)=w4 at *
 have H4:=N_H4
 have H0:=N_H0
 have H1:=N_H1
 have H2:=N_H2
 have H3:=N_H3
 have H5:=N_H5
 have HR:=N_HR
 have HA:=N_HA
 have HB1:=N_HB1
 have HC:=N_HC
 have HD:=N_HD
 have KW:=N_K
 clear N_K N_H4 N_H0 N_H1 N_H2 N_H3 N_H5 N_HR N_HA N_HB1 N_HC N_HD
 have LS_w4:=hid (zt H5.o)
 clear rc0 rl0 rz0 rl0_1 rl0_2 rl0_3
 have PC:Box (PrC w4 (q+5) 0 prB):=hid (by
  have b0:BlC w4 (w3.heap.size+1+1+1) 0 ⟨[⟨3,0,0,0,0,[]⟩],2,0,1,2⟩:=⟨SlC.one (zc HD.o 0) (in_lit ⟨by unfold b64;decide,by unfold b64;decide,by unfold b64;decide,by unfold b64;decide,by unfold b64;decide⟩ rfl (zc HA.o 0) (zc HA.o 1) (zc HA.o 2) (zc HA.o 3) (zc HA.o 4) (zc HA.o 5)),zI.xof (zc HD.o 1) (by simp),zI.xof (zc HD.o 2) (by simp),zI.xof (zc HD.o 3) (by simp),zI.xof (zc HD.o 4) (by simp)⟩
  have b1:BlC w4 (w3.heap.size+1+1+1) 5 ⟨[⟨1,1,0,0,11,[]⟩],3,1,0,0⟩:=⟨SlC.one (zc HD.o 5) (in_lit ⟨by unfold b64;decide,by unfold b64;decide,by unfold b64;decide,by unfold b64;decide,by unfold b64;decide⟩ rfl (zc HB1.o 0) (zc HB1.o 1) (zc HB1.o 2) (zc HB1.o 3) (zc HB1.o 4) (zc HB1.o 5)),zI.xof (zc HD.o 6) (by simp),zI.xof (zc HD.o 7) (by simp),zI.xof (zc HD.o 8) (by simp),zI.xof (zc HD.o 9) (by simp)⟩
  have b2:BlC w4 (w3.heap.size+1+1+1) (2 * 5) ⟨[⟨1,1,0,0,22,[]⟩],3,1,0,0⟩:=⟨SlC.one (zc HD.o 10) (in_lit ⟨by unfold b64;decide,by unfold b64;decide,by unfold b64;decide,by unfold b64;decide,by unfold b64;decide⟩ rfl (zc HC.o 0) (zc HC.o 1) (zc HC.o 2) (zc HC.o 3) (zc HC.o 4) (zc HC.o 5)),zI.xof (zc HD.o 11) (by simp),zI.xof (zc HD.o 12) (by simp),zI.xof (zc HD.o 13) (by simp),zI.xof (zc HD.o 14) (by simp)⟩
  have t0:TyC w4 w2.heap.size 0 (0,0):=⟨zI.xof (zc HR.o 0) (by simp),zI.xof (zc HR.o 1) (by simp)⟩
  have t1:TyC w4 w2.heap.size 2 (0,0):=⟨zI.xof (zc HR.o 2) (by simp),zI.xof (zc HR.o 3) (by simp)⟩
  have f:FuC w4 (q+4) 0 ⟨0,[(0,0),(0,0)],[⟨[⟨3,0,0,0,0,[]⟩],2,0,1,2⟩,⟨[⟨1,1,0,0,11,[]⟩],3,1,0,0⟩,⟨[⟨1,1,0,0,22,[]⟩],3,1,0,0⟩]⟩:=⟨zI.xof (zc H4.o 0) (by simp),SlC.lit2 (zc H4.o 1) t0 t1,SlC.lit3 (zc H4.o 2) b0 b1 b2⟩
  exact ⟨SlC.xnone (zc H5.o 0),SlC.one (zc H5.o 1) (show SgC _ q 0 ([],0,0) from ⟨SlC.xnone (zc H0.o 0),zI.xof (zc H0.o 1) (by simp),zI.xof (zc H0.o 2) (by simp)⟩),SlC.xnone (zc H5.o 2),SlC.xnone (zc H5.o 3),SlC.one (zc H5.o 4) f,zI.xof (zc H5.o 5) (by simp[prB])⟩)
 clear H0 H1 H2 H3 H4 H5 HR HA HB1 HC HD
 go_wp2_with fail
 have K5:=za.alloc [] w4 (.cells #[.int .i64 n] 2)
 have RO:zq (w4.alloc (.cells #[.int .i64 n] 2)) 1 zI (some ⟨w4.heap.size,0,none⟩) [n]:=zq.one ⟨zc (ze w4 _) 0,HB.o⟩
 have R:=hid (zmH (l:=[n]) (cp:=1) (PrC.stays _ _ _ _ _ K5 PC.o) (HG.o.quiet (KW.o.quiet K5)) (HT.o.kept (KW.o.quiet K5) (by simp)) wf_prB sm_prB RO (by simp))
 have K5':=hid (KW.o.quiet K5)
 generalize w4.alloc (.cells #[.int .i64 n] 2)=w5 at *
 clear K5 RO PC KW
 refine R.o.mono ?_
 rintro e w6 ⟨mp,F,rfl,m6,k6, -⟩
 rw[brB n] at m6 ⊢
 have M6:=hid m6
 have K6:=hid (K5'.o.quiet k6)
 clear m6 k6 R K5'
 by_cases h0:n=0
 case' pos=>have hb:(n == 0)=true:=by simp[h0]
 case' neg=>have hb:(n == 0)=false:=by simp[h0]
 all_goals
  first | rw[if_pos h0,if_pos h0] at M6 | rw[if_neg h0,if_neg h0] at M6
  clear h0
  go_wp2_with fail
  refine (zbx M6.o).mono ?_
  rintro e w7 ⟨rfl,k7⟩
  have M7:=hid (M6.o.quiet k7)
  have K7:=hid (K6.o.quiet k7)
  have f1:=fun (x y z:Value)=>zno x y z
  have f2:=fun (x y z:Value)=>znu x y z
  clear k7 M6
  unfold vlV M1f
  go_wp2_with fail
  refine (zbx M7.o).mono ?_
  rintro e w8 ⟨rfl,k8⟩
  have K8:=hid (K7.o.quiet k8)
  clear k8
  unfold vlV M1f
  go_wp2_with fail
  go_ret
  exact ⟨rfl,K8.o⟩
end Go.Proofs.YtgmbkiagdhjpnaaGreatDoor
