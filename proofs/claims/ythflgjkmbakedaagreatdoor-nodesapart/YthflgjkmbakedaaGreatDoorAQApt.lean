/-
  NodesApart: the list of who has been seen.
-/
import Derived.Test.YthflgjkmbakedaaGreatDoorA34
namespace Go.Proofs.YthflgjkmbakedaaGreatDoor
open Go.RowKit
def seenV(L n:Nat):List Value:=(List.range L).map fun i=>.bool (decide (i<n))
theorem seenV_len(L n:Nat):(seenV L n).length=L:=by unfold seenV;rw[List.length_map,List.length_range]
theorem seenV_at{L n i:Nat}(h:i<L):(seenV L n)[i]? = some (.bool (decide (i<n))):=by
 unfold seenV
 rw[List.getElem?_map,List.getElem?_range h]
 rfl
theorem seenV_set{L n:Nat}:(seenV L n).set n (.bool true)=seenV L (n+1):=by
 apply List.ext_getElem?
 intro i
 by_cases hi:i<L
 ·rw[seenV_at hi]
  by_cases e:i=n
  ·subst e
   rw[List.getElem?_set_self (by rw[seenV_len];exact hi),decide_eq_true (by omega)]
  ·rw[List.getElem?_set_ne (by omega),seenV_at hi]
   congr 2
   rw[decide_eq_decide]
   omega
 ·rw[List.getElem?_eq_none (by rw[List.length_set,seenV_len];omega),List.getElem?_eq_none (by rw[seenV_len];omega)]
structure SeP (w:World) (B b5 b6 sb L n:Nat):Prop where
 h5:w.heap[b5]? = some (.cells #[.slice (some ⟨sb,0,none⟩) L L] 95 (0,0))
 h6:w.heap[b6]? = some (.cells #[.int .i64 (n:Int)] 3 (0,0))
 own:w.ownsRow B 4 1 (.slice (some ⟨sb,0,none⟩) L L) L (seenV L n)
theorem SeP.quiet{w w':World}{B b5 b6 sb L n:Nat}(h:SeP w B b5 b6 sb L n)(k:zc [] w w'):SeP w' B b5 b6 sb L n:=
 ⟨ze h.h5 k,ze h.h6 k,zj h.own k (fun _ _=>by simp)⟩
theorem SeP.ne{w:World}{B b5 b6 sb L n:Nat}(h:SeP w B b5 b6 sb L n):sb≠b5∧sb≠b6∧b5≠b6:=by
 refine ⟨fun e=>qM h.own h.h5 (by decide) (by rw[e];rfl),fun e=>qM h.own h.h6 (by decide) (by rw[e];rfl),fun e=> ?_⟩
 have h5:=h.h5
 rw[e,h.h6] at h5
 simp at h5
theorem SeP.put{w:World}{B b5 b6 sb L n:Nat}(h:SeP w B b5 b6 sb L n):SeP ((w.setCell ⟨sb,n,none⟩ (.bool true)).setCell ⟨b6,0,none⟩ (.int .i64 ((n+1:Nat):Int))) B b5 b6 sb L (n+1):=by
 obtain ⟨n1,n2,n3⟩:=h.ne
 have o1:=(h.own.stored n (.bool true)).1
 rw[seenV_set] at o1
 have k1:zc [sb] w (w.setCell ⟨sb,n,none⟩ (.bool true)):=zc.setCell _ _ _ _ (List.mem_singleton.2 rfl)
 have k2:zc [b6] (w.setCell ⟨sb,n,none⟩ (.bool true)) ((w.setCell ⟨sb,n,none⟩ (.bool true)).setCell ⟨b6,0,none⟩ (.int .i64 ((n+1:Nat):Int))):=zc.setCell _ _ _ _ (List.mem_singleton.2 rfl)
 have h6:(w.setCell ⟨sb,n,none⟩ (.bool true)).heap[b6]? = some (.cells #[.int .i64 (n:Int)] 3 (0,0)):=(k1.block b6 (zQ h.h6) (by simp[Ne.symm n2])).trans h.h6
 refine ⟨?_,heap_setCell_same _ _ 0 _ _ _ h6,zj o1 k2 (fun b hb hm=> ?_)⟩
 ·exact ((k2.block b5 (by have:=zQ h.h5;exact Nat.lt_of_lt_of_le this k1.size) (by simp[n3])).trans (k1.block b5 (zQ h.h5) (by simp[Ne.symm n1]))).trans h.h5
 ·have e1:sb=b:=by simpa [Value.ownBlock] using hb
  exact n2 (e1.trans (List.mem_singleton.1 hm))
theorem sep_keep{w:World}{b6 sb n:Nat}:zc [b6,sb] w ((w.setCell ⟨sb,n,none⟩ (.bool true)).setCell ⟨b6,0,none⟩ (.int .i64 ((n+1:Nat):Int))):=
 (zc.setCell _ _ _ _ (by simp)).step (zc.setCell _ _ _ _ (by simp))
set_option maxHeartbeats 2000000 in
theorem put_any{w:World}{B b5 b6 sb L n:Nat}(h:SeP w B b5 b6 sb L n)(hn:n<L)(hL:L≤1000000):Calls Tryz.prog 49 #[.int .i64 (n:Int),.pointer (some ⟨b5,0,none⟩),.pointer (some ⟨b6,0,none⟩)] w fun e w'=>e=.returned (.bool true)∧SeP w' B b5 b6 sb L (n+1)∧zc [b6,sb] w w':=by
 have p5:=zd h.h5 0
 have p6:=zd h.h6 0
 have y6:=zi h.h6 0
 have l6:=zQ h.h6
 obtain ⟨n1,n2,n3⟩:=h.ne
 have c0:=(h.own.cellAt n (by omega)).trans (seenV_at (n:=n) hn)
 rw[decide_eq_false (Nat.lt_irrefl n)] at c0
 have hf:w.frozen? ⟨sb,n,none⟩=false:=by
  rcases h.own.2 with ⟨hv,_⟩ | ⟨g,cap,cur,hv,_,hg,_⟩
  ·simp at hv
  ·simp at hv
   obtain ⟨rfl, -⟩:=hv
   exact zi hg n
 have hlt:(n:Int)<(L:Int):=by omega
 have HP:=hid h.put
 have HE:Box (((n:Int)+1)=((n+1:Nat):Int)):=hid (by omega)
 clear h
 go_enter Tryz.func49,Tryz.ntmps49
 go_wp2_with fail
 rw[HE.o]
 go_ret
 exact ⟨rfl,HP.o,sep_keep⟩
end Go.Proofs.YthflgjkmbakedaaGreatDoor
