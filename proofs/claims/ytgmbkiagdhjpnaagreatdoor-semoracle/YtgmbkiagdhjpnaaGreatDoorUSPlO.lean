/-
  Plain runs: what comes from without.
-/
import Derived.Test.YtgmbkiagdhjpnaaGreatDoorUSGrow
namespace Go.Proofs.YtgmbkiagdhjpnaaGreatDoor
open Go.RowKit
def oC:Nat→List In8
 | 0=>[⟨1,0,0,0,7,[]⟩]
 | n+1=>oC n ++ [⟨3,0,0,0,0,[]⟩,⟨15,0,0,0,0,[]⟩]
theorem oC_len:∀ n,(oC n).length=1+2 * n
 | 0=>rfl
 | n+1=>by rw[oC,List.length_append,oC_len n];simp;omega
theorem oC_at:∀ (n t:Nat),t<n→(oC n)[1+2 * t]? = some ⟨3,0,0,0,0,[]⟩∧(oC n)[2+2 * t]? = some ⟨15,0,0,0,0,[]⟩
 | 0,t,h=>absurd h (Nat.not_lt_zero _)
 | n+1,t,h=>by
  have hl:=oC_len n
  by_cases e:t=n
  ·subst e
   rw[oC,List.getElem?_append_right (by omega),List.getElem?_append_right (by omega),hl,show 1+2 * t - (1+2 * t)=0 by omega,show 2+2 * t - (1+2 * t)=1 by omega]
   exact ⟨rfl,rfl⟩
  ·have ih:=oC_at n t (by omega)
   rw[oC,List.getElem?_append_left (by omega),List.getElem?_append_left (by omega)]
   exact ih
def prO(n:Nat):Pr8:=prG 1 (oC n)
def MO(l:List Int)(t i:Nat)(v:V3)(sk:Bool):Ma:=⟨[],⟨0,0,i,zfD.set 0 (v,true)⟩,[],[],l.drop t,false,0,sk,(0,0,false)⟩
theorem so_first(n:Nat)(l:List Int):zS (prO n) (ma0 (prO n) l)=(0,MO l 0 1 (0,7,false) false):=by
 have e:(oC n)[0]? = some ⟨1,0,0,0,7,[]⟩:=by
  induction n with
  | zero=>rfl
  | succ n ih=>
   rw[oC,List.getElem?_append_left (by rw[oC_len];omega)]
   exact ih
 refine zdV (m':=MO l 0 0 (0,7,false) false) (x:=⟨1,0,0,0,7,[]⟩) ?_ ?_ rfl rfl
 ·show 0<(oC n).length
  rw[oC_len]
  omega
 ·show (oC n).getD 0 _=_
  rw[List.getD_eq_getElem?_getD,e]
  rfl
theorem so_src{n t:Nat}(h:t<n)(l:List Int)(v:V3)(sk:Bool):zS (prO n) (MO l t (1+2 * t) v sk)=(0,MO l (t+1) (2+2 * t) (0,(l.drop t).headD 0,true) false):=by
 have e:=(oC_at n t h).1
 have hd:l.drop (t+1)=(l.drop t).tail:=by rw[List.tail_drop]
 have s:=zdV (P:=prO n) (m:=MO l t (1+2 * t) v sk) (m':=MO l (t+1) (1+2 * t) (0,(l.drop t).headD 0,true) false) (x:=⟨3,0,0,0,0,[]⟩) (by
  show 1+2 * t<(oC n).length
  rw[oC_len]
  omega) (by
  show (oC n).getD (1+2 * t) _=_
  rw[List.getD_eq_getElem?_getD,e]
  rfl) rfl (by
  unfold MO
  rw[hd]
  rfl)
 rw[s]
 show (0,MO l (t+1) (1+2 * t+1) (0,(l.drop t).headD 0,true) false)=_
 rw[show 1+2 * t+1=2+2 * t by omega]
theorem so_snk{n t:Nat}(h:t<n)(l:List Int)(z:Int)(sk:Bool):zS (prO n) (MO l (t+1) (2+2 * t) (0,z,true) sk)=(0,MO l (t+1) (1+2 * (t+1)) (0,z,true) true):=by
 have e:=(oC_at n t h).2
 have s:=zdV (P:=prO n) (m:=MO l (t+1) (2+2 * t) (0,z,true) sk) (m':=MO l (t+1) (2+2 * t) (0,z,true) true) (x:=⟨15,0,0,0,0,[]⟩) (by
  show 2+2 * t<(oC n).length
  rw[oC_len]
  omega) (by
  show (oC n).getD (2+2 * t) _=_
  rw[List.getD_eq_getElem?_getD,e]
  rfl) rfl rfl
 rw[s]
 show (0,MO l (t+1) (2+2 * t+1) (0,z,true) true)=_
 rw[show 2+2 * t+1=1+2 * (t+1) by omega]
theorem wf_prO:∀ n,n<15→wfO (prO n)=none:=by decide +kernel
theorem sm_prO(n:Nat)(hn:n<15):Sm8 (prO n):=⟨by show 1≤12;omega,fun f hf=>(by
 have hf:f<1:=hf
 obtain rfl:f=0:=by omega
 show 1≤14
 omega),(by decide +kernel:∀ n,n<15→(pts (prO n)).length≤150) n hn⟩
theorem oC_ok:∀ n x,x∈oC n→InB x
 | 0,x,hx=>by
  rw[List.mem_singleton.1 hx]
  exact ⟨by unfold b64;decide,rfl⟩
 | n+1,x,hx=>by
  rcases List.mem_append.1 hx with hx | hx
  ·exact oC_ok n x hx
  ·simp only[List.mem_cons,List.not_mem_nil,or_false] at hx
   rcases hx with rfl | rfl
   ·exact ⟨by unfold b64;decide,rfl⟩
   ·exact ⟨by unfold b64;decide,rfl⟩
end Go.Proofs.YtgmbkiagdhjpnaaGreatDoor
