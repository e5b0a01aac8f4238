import Derived.Test.YthflgjkmbakedaaGreatDoorN05
import Derived.Test.YthflgjkmbakedaaGreatDoorN06

namespace Go.Proofs.YthflgjkmbakedaaGreatDoor
open Go.RowKit
open Go.Value (int pointer agg)
open Go.IntKind (i64)
set_option maxRecDepth 20000
set_option maxHeartbeats 4000000
variable {F:List Nat}{cap g hp i j k:Nat}{f o y:Int}{l:List (Int × Int)}{pv sv:Value}{w:World}
def qK(t:Int × Int):V3:=if t.1=0 then (0,0,false) else (1,0,false)
theorem zfI(t:Int × Int)(w:World):Calls Tryz.prog 249 #[tyV t] w fun e w'=>e=.returned (vlV (qK t))∧za [] w w':=by
 obtain ⟨k,n⟩:=t;by_cases h:k=0
 ·subst h
  go_enter Tryz.func249,Tryz.ntmps249;go_wp2;exact bodyPost_ret (v:=vlV (0,0,false)) (by simp[results,Tryz.results249,go_sem]) rfl ⟨rfl,(za.alloc [] _ _).quiet (za.alloc [] _ _)⟩
 ·have hz:qK (k,n)=(1,0,false):=if_neg h
  rw[hz];go_enter Tryz.func249,Tryz.ntmps249;go_wp2;exact bodyPost_ret (v:=vlV (1,0,false)) (by simp[results,Tryz.results249,go_sem]) rfl ⟨rfl,(za.alloc [] _ _).quiet (za.alloc [] _ _)⟩
theorem HpV.le{os:List Ob}(h:HpV w hp sv os F):os.length≤9223372036854775807:=by
 rcases h.obs.own.2 with ⟨_,h0⟩ | ⟨_,c,_,_,_,_,h1,h2,_⟩
 ·omega
 ·unfold maxLen at h2
  omega
theorem zd8{os:List Ob}(h:HpV w hp sv os F)(hs:sv=.slice (some ⟨g,0,none⟩) os.length cap)(hj:j<os.length):
  Calls Tryz.prog 250 #[pointer (some ⟨hp,0,none⟩),int i64 ((j:Int)+1)] w fun e w'=>e=.returned (pointer (some ⟨g,j * 3,none⟩))∧za [] w w':=by
 have p0:=zc h.box 0;rw[hs] at p0;have hle:=h.le;have h1:¬ (j:Int)+1<1:=by omega
 have h2:¬ (os.length:Int)<(j:Int)+1:=by omega
 generalize os.length=n at *;clear h hs;go_enter Tryz.func250,Tryz.ntmps250;go_wp2;go_ret;exact ⟨rfl,za.refl _ _⟩
theorem zfg{os:List Ob}(h:HpV w hp sv os F)(ho:o<1∨(os.length:Int)<o):
  Calls Tryz.prog 250 #[pointer (some ⟨hp,0,none⟩),int i64 o] w fun e w'=>e=.returned (.pointer none)∧za [] w w':=by
 obtain ⟨a,cap,hs,_⟩:=h.obs.len;have p0:=zc h.box 0;rw[hs] at p0;generalize os.length=n at *;by_cases h1:o<1
 ·clear h hs ho
  go_enter Tryz.func250,Tryz.ntmps250;go_wp2;go_ret;exact ⟨rfl,za.refl _ _⟩
 ·have h2:(n:Int)<o:=by omega
  clear h hs ho;go_enter Tryz.func250,Tryz.ntmps250;go_wp2;go_ret;exact ⟨rfl,za.refl _ _⟩
theorem zfF(w:World)(o:Int):Calls Tryz.prog 250 #[.pointer none,int i64 o] w fun e w'=>e=.returned (.pointer none)∧za [] w w':=by
 go_enter Tryz.func250,Tryz.ntmps250;go_wp2;go_ret;exact ⟨rfl,za.refl _ _⟩
def zjZ(w:World)(pv:Value)(o:Int):Prop:=pv=.pointer none∨∃ hp sv os F,pv=pointer (some ⟨hp,0,none⟩)∧HpV w hp sv os F∧(o<1∨(os.length:Int)<o)
theorem zgP(h:zjZ w pv o):Calls Tryz.prog 250 #[pv,int i64 o] w fun e w'=>e=.returned (.pointer none)∧za [] w w':=by
 rcases h with rfl | ⟨hp,sv,os,F,rfl,h,ho⟩
 ·exact zfF w o
 ·exact zfg h ho
theorem zdM(h:zjZ w pv o):Calls Tryz.prog 225 #[pv,int i64 o] w fun e w'=>e=.returned (.tuple #[.pointer none,int i64 1])∧za [] w w':=by
 have H:=hid (zgP h);clear h;go_enter Tryz.func225,Tryz.ntmps225;go_wp2_with fail;refine H.o.mono ?_;rintro e w1 ⟨rfl,k1⟩;have K1:=hid k1;clear k1 H;go_wp2_with fail
 go_ret2
 exact ⟨rfl,K1.o⟩
theorem jJ{os:List Ob}(h:HpV w hp sv os F)(hs:sv=.slice (some ⟨g,0,none⟩) os.length cap){o:Ob}(hj:os[j]? = some o)(hfr:o.free=false):
  Calls Tryz.prog 225 #[pointer (some ⟨hp,0,none⟩),int i64 ((j:Int)+1)] w fun e w'=>e=.returned (.tuple #[pointer (some ⟨g,j * 3,none⟩),int i64 0])∧za [] w w':=by
 have hjl:=(List.getElem?_eq_some_iff.1 hj).1;have H:=hid (zd8 h hs hjl);obtain ⟨g',cap',hs',_,_,_,c1,_⟩:=h.obs.at hj;rw[hs] at hs';simp at hs';obtain ⟨rfl,_⟩:=hs';unfold ob3 at c1;rw[hfr] at c1;have C1:=hid c1;clear h hs hj c1 hfr;go_enter Tryz.func225,Tryz.ntmps225;go_wp2_with fail;refine H.o.mono ?_;rintro e w1 ⟨rfl,k1⟩;have K1:=hid k1;have p1:=zb k1 C1.o;clear k1 H C1;go_wp2_with fail
 go_ret2
 exact ⟨rfl,K1.o⟩
theorem JP{os:List Ob}(h:HpV w hp sv os F)(hs:sv=.slice (some ⟨g,0,none⟩) os.length cap){o:Ob}(hj:os[j]? = some o)(hfr:o.free=true):
  Calls Tryz.prog 225 #[pointer (some ⟨hp,0,none⟩),int i64 ((j:Int)+1)] w fun e w'=>e=.returned (.tuple #[.pointer none,int i64 2])∧za [] w w':=by
 have hjl:=(List.getElem?_eq_some_iff.1 hj).1;have H:=hid (zd8 h hs hjl);obtain ⟨g',cap',hs',_,_,_,c1,_⟩:=h.obs.at hj;rw[hs] at hs';simp at hs';obtain ⟨rfl,_⟩:=hs';unfold ob3 at c1;rw[hfr] at c1;have C1:=hid c1;clear h hs hj c1 hfr;go_enter Tryz.func225,Tryz.ntmps225;go_wp2_with fail;refine H.o.mono ?_;rintro e w1 ⟨rfl,k1⟩;have K1:=hid k1;have p1:=zb k1 C1.o;clear k1 H C1;go_wp2_with fail
 go_ret2
 exact ⟨rfl,K1.o⟩
def foW(os:List Ob)(o:Int):Int:=if o<1∨(os.length:Int)<o then 1 else if (os.getD (o - 1).toNat ⟨0,false,.slice none 0 0,[]⟩).free=true then 2 else 0
theorem zdb{os:List Ob}(h:o<1∨(os.length:Int)<o):foW os o=1:=if_pos h
theorem zdG{os:List Ob}{x:Ob}(h:os[j]? = some x):foW os ((j:Int)+1)=if x.free=true then 2 else 0:=by
 have hj:=(List.getElem?_eq_some_iff.1 h).1;unfold foW;rw[if_neg (by omega),show ((j:Int)+1 - 1).toNat=j by omega,List.getD_eq_getElem?_getD,h];rfl
theorem J6(os:List Ob)(o:Int):(o<1∨(os.length:Int)<o)∨∃ (j:Nat) (x:Ob),o=(j:Int)+1∧os[j]? = some x:=by
 by_cases h:o<1∨(os.length:Int)<o
 ·exact .inl h
 ·exact .inr ⟨(o - 1).toNat,_,by omega,List.getElem?_eq_getElem (by omega)⟩
theorem zga{os:List Ob}(h:foW os o=0):∃ (j:Nat) (x:Ob),o=(j:Int)+1∧os[j]? = some x∧x.free=false:=by
 rcases J6 os o with ho | ⟨j,x,rfl,hx⟩
 ·rw[zdb ho] at h
  omega
 ·rw[zdG hx] at h
  refine ⟨j,x,rfl,hx,?_⟩;cases hf:x.free
  ·rfl
  ·rw[hf] at h
   simp at h
theorem Zs{os:List Ob}(h:HpV w hp sv os F)(hw:foW os o≠0):
  Calls Tryz.prog 225 #[pointer (some ⟨hp,0,none⟩),int i64 o] w fun e w'=>e=.returned (.tuple #[.pointer none,int i64 (foW os o)])∧za [] w w':=by
 rcases J6 os o with ho | ⟨j,x,rfl,hx⟩
 ·rw[zdb ho]
  exact zdM (.inr ⟨hp,sv,os,F,rfl,h,ho⟩)
 ·obtain ⟨g,cap,hs,_⟩:=h.obs.at hx
  rw[zdG hx] at hw ⊢;cases hf:x.free
  ·rw[hf] at hw
   simp at hw
  ·exact JP h hs hx hf
theorem zbf(f:Int)(H:Calls Tryz.prog 225 #[pv,int i64 o] w fun e w'=>e=.returned (.tuple #[.pointer none,int i64 y])∧za [] w w')(hy:y≠0):
  Calls Tryz.prog 224 #[pv,int i64 o,int i64 f] w fun e w'=>e=.returned (.tuple #[.pointer none,int i64 y])∧za [] w w':=by
 have H:=hid H;go_enter Tryz.func224,Tryz.ntmps224;go_wp2_with fail;refine H.o.mono ?_;rintro e w1 ⟨rfl,k1⟩;have K1:=hid k1;clear k1 H;go_wp2_with fail
 go_ret2
 exact ⟨rfl,K1.o⟩
theorem zaz{os:List Ob}(h:HpV w hp sv os F){x:Ob}(hx:os[j]? = some x)(hf:x.free=false)(ho:f<0∨(x.vs.length:Int)≤f):
  Calls Tryz.prog 224 #[pointer (some ⟨hp,0,none⟩),int i64 ((j:Int)+1),int i64 f] w fun e w'=>e=.returned (.tuple #[.pointer none,int i64 1])∧za [] w w':=by
 obtain ⟨g,cap,hs,_,_,_,_,c2,_⟩:=h.obs.at hx;have H:=hid (jJ h hs hx hf);obtain ⟨fa,fc,hv,_⟩:∃ a c,x.fs=.slice a x.vs.length c∧True:=by
  rcases (h.obs.fld j x hx).2 with ⟨hv,h0⟩ | ⟨b,c,_,hv,_⟩
  ·exact ⟨none,0,by rw[hv,h0],trivial⟩
  ·exact ⟨_,c,hv,trivial⟩
 unfold ob3 at c2;rw[hv] at c2;have C2:=hid c2;generalize x.vs.length=n at *;clear h hs c2 hx hf;by_cases h0:f<0
 ·go_enter Tryz.func224,Tryz.ntmps224
  go_wp2_with fail;refine H.o.mono ?_;rintro e w1 ⟨rfl,k1⟩;have K1:=hid k1;have p2:=zb k1 C2.o;clear k1 H C2 ho;go_wp2_with fail
  go_ret2
  exact ⟨rfl,K1.o⟩
 ·have h1:(n:Int)≤f:=by omega
  go_enter Tryz.func224,Tryz.ntmps224;go_wp2_with fail;refine H.o.mono ?_;rintro e w1 ⟨rfl,k1⟩;have K1:=hid k1;have p2:=zb k1 C2.o;clear k1 H C2 ho;go_wp2_with fail
  go_ret2
  exact ⟨rfl,K1.o⟩
theorem zcW{os:List Ob}(h:HpV w hp sv os F){x:Ob}(hx:os[j]? = some x)(hf:x.free=false){b:Nat}(hi:i<x.vs.length)(hb:x.fs=.slice (some ⟨b,0,none⟩) x.vs.length cap):
  Calls Tryz.prog 224 #[pointer (some ⟨hp,0,none⟩),int i64 ((j:Int)+1),int i64 (i:Int)] w fun e w'=>e=.returned (.tuple #[pointer (some ⟨b,i * 3,none⟩),int i64 0])∧za [] w w':=by
 obtain ⟨g,cap',hs,_,_,_,_,c2,_⟩:=h.obs.at hx;have H:=hid (jJ h hs hx hf);unfold ob3 at c2;rw[hb] at c2;have C2:=hid c2;have hle:x.vs.length≤9223372036854775807:=by
  rcases (h.obs.fld j x hx).2 with ⟨_,h0⟩ | ⟨_,c,_,_,_,_,h1,h2,_⟩
  ·omega
  ·unfold maxLen at h2
   omega
 generalize x.vs.length=n at *;clear h hs c2 hx hf hb;have h0:¬ (i:Int)<0:=by omega
 have h1:¬ (n:Int)≤(i:Int):=by omega
 go_enter Tryz.func224,Tryz.ntmps224;go_wp2_with fail;refine H.o.mono ?_;rintro e w1 ⟨rfl,k1⟩;have K1:=hid k1;have p2:=zb k1 C2.o;clear k1 H C2;go_wp2_with fail
 go_ret2
 exact ⟨rfl,K1.o⟩
theorem ze5:Tryz.prog.info? 304=some Tryz.t304:=by kernel_rfl
theorem zbH:Tryz.prog.underlying 159=some (.slice 304):=by kernel_rfl
theorem zeo:Tryz.t304.zero=some (agg #[int i64 0,.bool false,.slice none 0 0]):=by kernel_rfl
theorem zf4:Tryz.t304.size=3:=by kernel_rfl
theorem zc6:Tryz.t304.bytes=40:=by kernel_rfl
theorem zhu:Tryz.prog.info? 30=some Tryz.t30:=by kernel_rfl
theorem zdp:Tryz.prog.underlying 302=some (.slice 30):=by kernel_rfl
theorem zgR:Tryz.t30.zero=some (agg #[int i64 0,int i64 0,.bool false]):=by kernel_rfl
theorem zhB:Tryz.t30.size=3:=by kernel_rfl
theorem zf9:Tryz.t30.bytes=24:=by kernel_rfl
def zc9(l:List (Int × Int))(k:Nat):List V3:=(l.take k).map qK ++ List.replicate (l.length - k) (0,0,false)
theorem zem(l:List (Int × Int))(k:Nat):(zc9 l k).length=l.length:=by
 unfold zc9;rw[List.length_append,List.length_map,List.length_take,List.length_replicate];omega
theorem zeA(l:List (Int × Int)):zc9 l l.length=l.map qK:=by
 unfold zc9;rw[List.take_length,Nat.sub_self];simp
theorem zd5(h:k<l.length):∃ v,(zc9 l k)[k]? = some v:=⟨_,List.getElem?_eq_getElem (by rw[zem];exact h)⟩
theorem zcH{t:Int × Int}(h:l[k]? = some t):(zc9 l k).set k (qK t)=zc9 l (k+1):=by
 have hk:=(List.getElem?_eq_some_iff.1 h).1;unfold zc9;have hl:((l.take k).map qK).length=k:=by rw[List.length_map,List.length_take];omega
 rw[List.set_append_right _ _ (by omega),hl,Nat.sub_self,List.take_add_one,h,show l.length - k=(l.length - (k+1))+1 by omega,List.replicate_succ];simp
theorem zfO(Z:Array Value)(n j i:Nat)(hj:j<n)(hi:i<Z.size):(madeCells Z (n * Z.size))[j * Z.size+i]? = Z[i]? := by
 have hlt:j * Z.size+i<n * Z.size:=by
  have h1:(j+1) * Z.size≤n * Z.size:=Nat.mul_le_mul_right _ hj;rw[Nat.add_mul] at h1;omega
 unfold madeCells;rw[Array.getElem?_map,Array.getElem?_eq_getElem (by simpa using hlt)];simp only[Array.getElem_range,Option.map_some];rw[Nat.add_comm,Nat.add_mul_mod_self_right,Nat.mod_eq_of_lt hi,Array.getElem?_eq_getElem hi,getElem!_pos Z i hi]
theorem zeq(n:Nat):(madeCells #[int i64 0,int i64 0,.bool false] (n * 3)).toList=Za v3 (List.replicate n (0,0,false)):=by
 apply List.ext_getElem?;intro j;by_cases hj:j<n * 3
 ·have hr:(List.replicate n ((0,0,false):V3))[j / 3]? = some (0,0,false):=by rw[List.getElem?_replicate,if_pos (by omega)]
  obtain ⟨g0,g1,g2⟩:=jv v3 _ _ _ hr;have hm:j % 3=0∨j % 3=1∨j % 3=2:=by omega
  have hc:∀ i,i<3→j % 3=i→(madeCells #[int i64 0,int i64 0,.bool false] (n * 3)).toList[j]? = (#[int i64 0,int i64 0,.bool false]:Array Value)[i]? := fun i hi e=>by
   have:=zfO (#[int i64 0,int i64 0,.bool false]:Array Value) n (j / 3) i (by omega) (by show i<3;omega);rw[show j / 3 * (#[int i64 0,int i64 0,.bool false]:Array Value).size+i=j by show j / 3 * 3+i=j;omega] at this;rw[Array.getElem?_toList];exact this
  rcases hm with e | e | e
  ·rw[hc 0 (by omega) e,show j=j / 3 * 3 by omega,g0];rfl
  ·rw[hc 1 (by omega) e,show j=j / 3 * 3+1 by omega,g1];rfl
  ·rw[hc 2 (by omega) e,show j=j / 3 * 3+2 by omega,g2];rfl
 ·rw[List.getElem?_eq_none (by simp[madeCells];omega),List.getElem?_eq_none (by rw[ze0,List.length_replicate];omega)]
theorem zfN(n:Nat)(hn:n≤1000000)(w:World):(Instr.makeSlice 302 (int i64 (n:Int)) (int i64 (n:Int))).run Tryz.prog w=.ok (.slice (some ⟨w.heap.size,0,none⟩) n n) (w.alloc (.cells (madeCells #[int i64 0,int i64 0,.bool false] (n * 3)) 30)):=by
 have:=run_make (P:=Tryz.prog) w 302 30 Tryz.t30 (agg #[int i64 0,int i64 0,.bool false]) zdp zhu zgR .i64 .i64 n n (by omega) (by omega) (by rw[zf9];omega) (by omega);rw[zhB,Int.toNat_natCast] at this;exact this
structure Fil (w0 wr:World) (q:Nat) (l:List (Int × Int)) (k:Nat):Prop where
 own:wr.ownsRow 0 30 3 (.slice (some ⟨q,0,none⟩) l.length l.length) l.length (Za v3 (zc9 l k))
 keeps:za [] w0 wr
 new:w0.heap.size≤q
theorem Fil.still{w0 wr w1:World}{q:Nat}(h:Fil w0 wr q l k)(k1:za [] wr w1):Fil w0 w1 q l k:=⟨zh h.own k1 (fun _ _=>by simp),h.keeps.quiet k1,h.new⟩
theorem Fil.step{w0 wr:World}{q:Nat}(h:Fil w0 wr q l k){t:Int × Int}(ht:l[k]? = some t):
  Fil w0 (((wr.setCell ⟨q,k * 3,none⟩ (v3 (qK t)).1).setCell ⟨q,k * 3+1,none⟩ (v3 (qK t)).2.1).setCell ⟨q,k * 3+2,none⟩ (v3 (qK t)).2.2) q l (k+1):=by
 obtain ⟨v,hv⟩:=zd5 (List.getElem?_eq_some_iff.1 ht).1;have o3:=(((h.own.stored (k * 3) (v3 (qK t)).1).1.stored (k * 3+1) (v3 (qK t)).2.1).1.stored (k * 3+2) (v3 (qK t)).2.2).1;rw[← ZA v3 _ k v _ hv,zcH ht] at o3;refine ⟨o3,h.keeps.trans (L':=[q]) (((za.setCell [q] _ _ _ (List.mem_singleton.2 rfl)).step (za.setCell [q] _ _ _ (List.mem_singleton.2 rfl))).step (za.setCell [q] _ _ _ (List.mem_singleton.2 rfl))) (fun x hx hl=> ?_),h.new⟩;rw[List.mem_singleton.1 hx] at hl;have:=h.new;omega
def AlP(w:World)(hp:Nat)(os:List Ob)(F:List Nat)(site:Int)(l:List (Int × Int))(e:Ending)(w':World):Prop:=
 e=.returned (int i64 ((os.length:Int)+1))∧∃ fs F',Hp w' hp (os ++ [⟨site,false,fs,l.map qK⟩]) F'∧za F w w'∧jx w F F'∧∀ x,x∈F→x∈F'
theorem zb8{os:List Ob}(h:Hp w hp os F)(hn:400≤os.length)(site:Int)(rv:Value):
  Calls Tryz.prog 222 #[pointer (some ⟨hp,0,none⟩),int i64 site,rv] w fun e w'=>e=.returned (int i64 0)∧za [] w w':=by
 obtain ⟨sv,h⟩:=h;obtain ⟨a,cap,hs,_⟩:=h.obs.len;have p0:=zc h.box 0;rw[hs] at p0;generalize os.length=n at *;have hn':(400:Int)≤(n:Int):=by omega
 clear h hs hn;go_enter Tryz.func222,Tryz.ntmps222;go_wp2;go_ret;exact ⟨rfl,za.refl _ _⟩
theorem Obs.far{w':World}{T U:TypeId}{f:Ob→Value × Value × Value}{os:List Ob}(h:Obs w T f sv os F){b:Nat}{cs:Array Value}(hb:w.heap[b]? = some (.cells cs U (0,0)))(h1:T≠U)(h2:30≠U)(k:za [b] w w'):Obs w' T f sv os F:=by
 have ne:∀ {V:TypeId}{v:Value}{n:Nat}{xs:List Value},w.ownsRow 0 V 3 v n xs→V≠U→∀ c,v.ownBlock=some c→c ∉ [b]:=fun ho hne c hc hx=>by
  rw[List.mem_singleton] at hx;subst hx;rcases ho.2 with ⟨rfl,_⟩ | ⟨g,cap,cur,rfl,_,hg,_⟩
  ·simp[Value.ownBlock] at hc
  ·simp[Value.ownBlock] at hc
   subst hc;rw[hg] at hb;simp at hb;exact hne hb.2
 exact ⟨zh h.own k (ne h.own h1),fun j o hj=>zh (h.fld j o hj) k (ne (h.fld j o hj) h2),h.apart,h.row,h.fin,fun x hx=>Nat.lt_of_lt_of_le (h.lt x hx) k.size⟩
theorem HpV.still{wa w5:World}{os:List Ob}(h:HpV w hp sv os F)(ka:za [] w wa)(hg:wa.grownBy w5 sv.ownBlock):w5.heap[hp]? = some (.cells #[sv] 161 (0,0)):=by
 have hj:=ze h.box ka;rw[hg.block hp (zx hj) (fun e=> ?_)]
 ·exact hj
 ·rcases (h.obs.quiet ka).own.2 with ⟨hv,_⟩ | ⟨g,cap,cur,hv,_,hh,_⟩
  ·rw[hv] at e
   simp[Value.ownBlock] at e
  ·rw[hv] at e
   simp[Value.ownBlock] at e;subst e;rw[hh] at hj;simp at hj
theorem HpV.push{wa w5:World}{sv':Value}{os:List Ob}{o:Ob}(h:HpV w hp sv os F)(ka:za [] w wa)(ho:wa.ownsRow 0 30 3 o.fs o.vs.length (Za v3 o.vs))(hnew:∀ k,o.fs.ownBlock=some k→k ∉ F)(own:w5.ownsRow 0 304 3 sv' (os.length+1) (Za ob3 (os ++ [o])))(hg:wa.grownBy w5 sv.ownBlock):
  HpV (w5.setCell ⟨hp,0,none⟩ sv') hp sv' (os ++ [o]) (F ++ (sv'.ownBlock.toList ++ o.fs.ownBlock.toList))∧za F wa (w5.setCell ⟨hp,0,none⟩ sv'):=by
 have box:=h.still ka hg;have k5:za [hp] w5 (w5.setCell ⟨hp,0,none⟩ sv'):=za.setCell _ _ _ _ (List.mem_singleton.2 rfl);refine ⟨⟨heap_setCell_same _ _ 0 _ _ _ box,List.mem_append_left _ h.hin,(h.obs.push (by decide) ka ho hnew own hg).far box (by decide) (by decide) k5⟩,?_⟩;exact (za.grown F hg (fun k hk=>h.obs.row k hk)).step (k5.mono (fun x hx=>by rw[List.mem_singleton.1 hx];exact h.hin))
theorem zdi(site:Int)(fs:Value)(h:fs.oneCell'=true):∀ u∈[Value.int .i64 site,.bool false,fs],u.oneCell'=true:=by
 intro u hu;simp at hu;rcases hu with rfl | rfl | rfl
 ·rfl
 ·rfl
 ·exact h
theorem zbY{os:List Ob}(h:Hp w hp os F)(hn:os.length<400)(site:Int){a:Option Addr}{cp:Nat}(hr:zv w 2 TyC a l)(hl:l.length≤1000):
  Calls Tryz.prog 222 #[pointer (some ⟨hp,0,none⟩),int i64 site,.slice a l.length cp] w (AlP w hp os F site l):=by
 obtain ⟨sv,h⟩:=h;obtain ⟨sa,sc,hs,_⟩:=h.obs.len;have HH:=hid h;have HS:=hid hs;have HR:=hid hr;have p0:=zc h.box 0;rw[hs] at p0;have hn':¬ (400:Int)≤(os.length:Int):=by omega
 obtain ⟨n,hN⟩:∃ n,n=os.length:=⟨_,rfl⟩;rw[← hN] at p0 hn' hn;have HN:=hid hN;obtain ⟨m,hM⟩:∃ m,m=l.length:=⟨_,rfl⟩;rw[← hM];rw[← hM] at hl;have HM:=hid hM;have mk:=zfN m (by omega);clear h hs hr hN hM;go_enter Tryz.func222,Tryz.ntmps222;go_upto_region 4 with fail
 have G0:Box (Fil w (w.alloc (.cells (madeCells #[int i64 0,int i64 0,.bool false] (m * 3)) 30)) w.heap.size l 0):=hid (by
  refine ⟨?_,za.alloc [] _ _,Nat.le_refl _⟩;have:=World.ownsRow_lit (base:=0) (e:=30) (size:=3) w (madeCells #[int i64 0,int i64 0,.bool false] (m * 3)) m (Nat.zero_le _) (by unfold maxLen;omega) (by simp[madeCells]);rw[zeq] at this;rw[← HM.o];unfold zc9;rw[← HM.o]
  exact this)
 generalize w.alloc (.cells (madeCells #[int i64 0,int i64 0,.bool false] (m * 3)) 30)=w1 at *;obtain ⟨q,hq⟩:∃ q,q=w.heap.size:=⟨_,rfl⟩;rw[← hq] at G0 ⊢;clear hq mk p0;go_wp2_with fail
 go_loopw [25] (fun iv wr=>∃ (k:Nat),k≤m∧iv=int i64 (k:Int)∧Box (Fil w wr q l k)) (fun iv _=>m - (intOf iv).toNat)
 case atStart=>exact ⟨0,by omega,rfl,G0⟩
 case round=>
  obtain ⟨k,hk,rfl,HF⟩:=hrel;clear G0;by_cases hlt9:k<m
  ·have hlt':(k:Int)<(m:Int):=by omega
   obtain ⟨t,ht⟩:∃ t,l[k]? = some t:=⟨_,List.getElem?_eq_getElem (by rw[← HM.o];exact hlt9)⟩;have HT:=hid ht;obtain ⟨rb,ro,rfl,hc⟩:=(HR.o.quiet TyC.stays HF.o.keeps).at ht;have c0:=hc.c0.1;have c1:=hc.c1.1;have hrb:=block_lt_of_cell c0;clear hc ht;go_upto_region 7 with fail;have F1:=hid (HF.o.still (za.alloc [] wr (.cells #[int i64 t.1,int i64 t.2] 52)));have n0:=zc (zd wr (.cells #[int i64 t.1,int i64 t.2] 52)) 0;have n1:=zc (zd wr (.cells #[int i64 t.1,int i64 t.2] 52)) 1;generalize wr.alloc (.cells #[int i64 t.1,int i64 t.2] 52)=w2 at *;generalize wr.heap.size=tb at *;go_wp2_with fail;refine (zfI t _).mono ?_;rintro e w3 ⟨rfl,k3⟩;have F2:=hid (F1.o.still k3);clear k3 F1 HF n0 n1 c0 c1 hrb;obtain ⟨v,hv⟩:=zd5 (l:=l) (k:=k) (by rw[← HM.o];exact hlt9);obtain ⟨g0,g1,g2⟩:=jv v3 _ _ _ hv;have p0:=(F2.o.own.cellAt (k * 3) (by rw[← HM.o];omega)).trans g0;have p1:=(F2.o.own.cellAt (k * 3+1) (by rw[← HM.o];omega)).trans g1;have p2:=(F2.o.own.cellAt (k * 3+2) (by rw[← HM.o];omega)).trans g2;have z0:=F2.o.own.frozenAt (k * 3);have z1:=F2.o.own.frozenAt (k * 3+1);have z2:=F2.o.own.frozenAt (k * 3+2);have F3:=hid (F2.o.step HT.o);clear F2 hv g0 g1 g2;go_wp2_with fail;go_roundw
   case rel=>exact ⟨k+1,by omega,by go_num,F3⟩
   case measure=>simp[intOf];omega
  ·obtain rfl:m=k:=by omega
   have HK:=hid HF.o.keeps;have HV:=hid (HH.o.kept HK.o (fun _ _=>by simp));have p0:=zc HV.o.box 0;rw[HS.o, ← HN.o] at p0;have z0:=zg HV.o.box 0;have hbl:=zx HV.o.box;have own:=HV.o.obs.own;rw[HS.o, ← HN.o] at own;have HOW:=hid own
   have hfo:Box (wr.ownsRow 0 30 3 (.slice (some ⟨q,0,none⟩) m m) (l.map qK).length (Za v3 (l.map qK))):=hid (by
    have:=HF.o.own;rw[← HM.o,show zc9 l m=l.map qK by rw[HM.o];exact zeA l] at this;rw[List.length_map, ← HM.o]
    exact this)
   have hqn:=HF.o.new;clear own HR;go_wp2_with (at_builtin;go_must (refine wpList_append_lies _ rfl _ _ _ rfl 0 304 Tryz.t304 (agg #[int i64 0,.bool false,.slice none 0 0]) 3 40 zbH ze5 zeo zf4 zc6 rfl (by decide) (.slice sa n sc) n (Za ob3 os) rfl (HOW.o.alloc _) ⟨wr.heap.size,0,none⟩ 1 1 [int i64 site,.bool false,.slice (some ⟨q,0,none⟩) m m] rfl rfl (World.news_of_block (cs:=#[int i64 site,.bool false,.slice (some ⟨q,0,none⟩) m m]) (t:=304) (fr:=(0,0)) (zd wr _)) (zdi _ _ rfl) (by omega) (by unfold maxLen;omega) (by omega) (by simp) (wr.heap.size+1) (by simp) ?_;intro g5 cap5 w5 hown5 hgrow5 hat5 hlt5;have hbx:=HV.o.still (za.alloc [] wr (.cells #[int i64 site,.bool false,.slice (some ⟨q,0,none⟩) m m] 304)) (by rw[HS.o, ← HN.o];exact hgrow5);have p5:=zc hbx 0;have z5:=zg hbx 0;have HO5:=hid hown5;have HG5:=hid hgrow5;have HA5:=hid hat5;clear hown5 hgrow5 hat5 hbx));go_ret
   have P:=HV.o.push (o:=⟨site,false,.slice (some ⟨q,0,none⟩) m m,l.map qK⟩) (sv':=.slice (some ⟨g5,0,none⟩) (n+1) cap5) (za.alloc [] wr (.cells #[int i64 site,.bool false,.slice (some ⟨q,0,none⟩) m m] 304)) (hfo.o.alloc _) (fun k hk hx=>by
    simp[Value.ownBlock] at hk;subst hk;have:=HH.o.obs.lt _ hx
    omega) (by rw[zdz, ← HN.o];exact HO5.o) (by rw[HS.o, ← HN.o];exact HG5.o)
   refine ⟨by rw[← HN.o];simp,_,_,⟨_,P.1⟩,(HK.o.mono (L':=F) (fun x hx=>by cases hx)).step (((za.alloc [] _ _).mono (L':=F) (fun x hx=>by cases hx)).step P.2),fun x hx=> ?_,fun x hx=>List.mem_append_left _ hx⟩;rcases List.mem_append.1 hx with hx | hx
   ·exact .inl hx
   ·rcases List.mem_append.1 hx with hx | hx
    ·simp[Value.ownBlock] at hx
     subst hx;rcases HA5.o with e | e
     ·refine .inl (HH.o.obs.row _ ?_)
      rw[HS.o, ← HN.o];exact e
     ·have:=HK.o.size
      exact .inr (by omega)
    ·simp[Value.ownBlock] at hx
     subst hx;exact .inr hqn
def obZ:Ob:=⟨0,false,.slice none 0 0,[]⟩
def slW(os:List Ob)(o f:Int):Int:=if foW os o≠0 then foW os o else if f<0∨((os.getD (o - 1).toNat obZ).vs.length:Int)≤f then 1 else 0
theorem zdL{os:List Ob}(f:Int)(h:foW os o≠0):slW os o f=foW os o:=if_pos h
theorem zaI{os:List Ob}{x:Ob}(f:Int)(h:os[j]? = some x)(hf:x.free=false):slW os ((j:Int)+1) f=if f<0∨(x.vs.length:Int)≤f then 1 else 0:=by
 have h0:foW os ((j:Int)+1)=0:=by rw[zdG h,hf];rfl
 unfold slW;rw[if_neg (by omega),show ((j:Int)+1 - 1).toNat=j by omega,List.getD_eq_getElem?_getD,h];rfl
theorem Jx(os:List Ob)(o f:Int):(slW os o f≠0∧foW os o≠0∧slW os o f=foW os o)∨(∃ (j:Nat) (x:Ob),o=(j:Int)+1∧os[j]? = some x∧x.free=false∧(f<0∨(x.vs.length:Int)≤f)∧slW os o f=1)∨∃ (j i:Nat) (x:Ob) (v:V3),o=(j:Int)+1∧f=(i:Int)∧os[j]? = some x∧x.free=false∧x.vs[i]? = some v∧slW os o f=0:=by
 by_cases h:foW os o=0
 ·obtain ⟨j,x,rfl,hx,hf⟩:=zga h
  by_cases ho:f<0∨(x.vs.length:Int)≤f
  ·exact .inr (.inl ⟨j,x,rfl,hx,hf,ho,by rw[zaI f hx hf,if_pos ho]⟩)
  ·exact .inr (.inr ⟨j,f.toNat,x,_,rfl,by omega,hx,hf,List.getElem?_eq_getElem (by omega),by rw[zaI f hx hf,if_neg ho]⟩)
 ·exact .inl ⟨by rw[zdL f h];exact h,h,zdL f h⟩
def zcB(os:List Ob)(o f:Int):V3:=if slW os o f=0 then (os.getD (o - 1).toNat obZ).vs.getD f.toNat (0,0,false) else (0,0,false)
theorem zgp{os:List Ob}{x:Ob}{v:V3}(hx:os[j]? = some x)(hv:x.vs[i]? = some v)(h:slW os ((j:Int)+1) (i:Int)=0):zcB os ((j:Int)+1) (i:Int)=v:=by
 unfold zcB;have e:os.getD j obZ=x:=by rw[List.getD_eq_getElem?_getD,hx];rfl
 rw[if_pos h,show ((j:Int)+1 - 1).toNat=j by omega,e,show ((i:Int)).toNat=i by omega,List.getD_eq_getElem?_getD,hv];rfl
theorem zcN(H:Calls Tryz.prog 224 #[pv,int i64 o,int i64 f] (w.alloc (.cells #[int i64 0,int i64 0,.bool false] 30)) fun e w'=>e=.returned (.tuple #[.pointer none,int i64 y])∧za [] (w.alloc (.cells #[int i64 0,int i64 0,.bool false] 30)) w')(hy:y≠0):
  Calls Tryz.prog 223 #[pv,int i64 o,int i64 f] w fun e w'=>e=.returned (.tuple #[vlV (0,0,false),int i64 y])∧za [] w w':=by
 have H:=hid H;have hn:=zd w (.cells #[int i64 0,int i64 0,.bool false] 30);have HN:=hid hn;have KA:=hid (za.alloc [] w (.cells #[int i64 0,int i64 0,.bool false] 30));clear hn;go_enter Tryz.func223,Tryz.ntmps223;go_wp2_with fail;refine H.o.mono ?_;rintro e w1 ⟨rfl,k1⟩;have K1:=hid k1;have hb:=ze HN.o k1;have HB:=hid hb;have c0:=zc hb 0;have c1:=zc hb 1;have c2:=zc hb 2;have z0:=zg hb 0;have z1:=zg hb 1;have z2:=zg hb 2;have KK:=hid (KA.o.quiet k1);clear k1 H hb HN;go_wp2_with fail;have HS:=JF HB.o (int i64 0) (int i64 0) (.bool false);have K3:=hid (KK.o.trans (jF w1 w.heap.size (int i64 0) (int i64 0) (.bool false)) (fun x hx hl=>by rw[List.mem_singleton.1 hx] at hl;omega));generalize ((w1.setCell ⟨w.heap.size,0,none⟩ (int i64 0)).setCell ⟨w.heap.size,1,none⟩ (int i64 0)).setCell ⟨w.heap.size,2,none⟩ (.bool false)=w2 at *;have r0:=zc HS 0;have r1:=zc HS 1;have r2:=zc HS 2;exact bodyPost_ret (v:=.tuple #[vlV (0,0,false),int i64 y]) (by simp[results,Tryz.results223,go_sem,r0,r1,r2]) rfl ⟨rfl,K3.o⟩
theorem zhY{os:List Ob}(h:HpV w hp sv os F){x:Ob}{v:V3}(hx:os[j]? = some x)(hf:x.free=false)(hv:x.vs[i]? = some v):
  Calls Tryz.prog 223 #[pointer (some ⟨hp,0,none⟩),int i64 ((j:Int)+1),int i64 (i:Int)] w fun e w'=>e=.returned (.tuple #[vlV v,int i64 0])∧za [] w w':=by
 obtain ⟨b,cap,hb,_,d0,d1,d2,_⟩:=h.obs.field hx hv;have KA:=hid (za.alloc [] w (.cells #[int i64 0,int i64 0,.bool false] 30));have H:=hid (zcW (h.kept KA.o (fun _ _=>by simp)) hx hf (List.getElem?_eq_some_iff.1 hv).1 hb);have HN:=hid (zd w (.cells #[int i64 0,int i64 0,.bool false] 30));have D:=hid (And.intro (zb KA.o d0) (And.intro (zb KA.o d1) (zb KA.o d2)));clear h hx hf hv hb d0 d1 d2;obtain ⟨vk,vn,vt⟩:=v;unfold v3 at D;go_enter Tryz.func223,Tryz.ntmps223;go_wp2_with fail;refine H.o.mono ?_;rintro e w1 ⟨rfl,k1⟩;have HB:=hid (ze HN.o k1);have c0:=zc HB.o 0;have c1:=zc HB.o 1;have c2:=zc HB.o 2;have z0:=zg HB.o 0;have z1:=zg HB.o 1;have z2:=zg HB.o 2;have d0:=zb k1 D.o.1;have d1:=zb k1 D.o.2.1;have d2:=zb k1 D.o.2.2;have KK:=hid (KA.o.quiet k1);clear k1 H HN;go_wp2_with fail;have HS:=JF HB.o (int i64 vk) (int i64 vn) (.bool vt);have K3:=hid (KK.o.trans (jF w1 w.heap.size (int i64 vk) (int i64 vn) (.bool vt)) (fun x hx hl=>by rw[List.mem_singleton.1 hx] at hl;omega));generalize ((w1.setCell ⟨w.heap.size,0,none⟩ (int i64 vk)).setCell ⟨w.heap.size,1,none⟩ (int i64 vn)).setCell ⟨w.heap.size,2,none⟩ (.bool vt)=w2 at *;have r0:=zc HS 0;have r1:=zc HS 1;have r2:=zc HS 2;exact bodyPost_ret (v:=.tuple #[vlV (vk,vn,vt),int i64 0]) (by simp[results,Tryz.results223,go_sem,r0,r1,r2]) rfl ⟨rfl,K3.o⟩
theorem zgr{os:List Ob}(h:Hp w hp os F)(o f:Int):
  Calls Tryz.prog 223 #[pointer (some ⟨hp,0,none⟩),int i64 o,int i64 f] w fun e w'=>e=.returned (.tuple #[vlV (zcB os o f),int i64 (slW os o f)])∧za [] w w':=by
 obtain ⟨sv,h⟩:=h;have ka:=za.alloc [] w (.cells #[int i64 0,int i64 0,.bool false] 30);have h':=h.kept ka (fun _ _=>by simp);rcases Jx os o f with ⟨h0,h1,h2⟩ | ⟨j,x,rfl,hx,hf,ho,hs⟩ | ⟨j,i,x,v,rfl,rfl,hx,hf,hv,hs⟩
 ·have e:zcB os o f=(0,0,false):=if_neg h0
  rw[e,h2];exact zcN (zbf f (Zs h' h1) h1) h1
 ·have e:zcB os ((j:Int)+1) f=(0,0,false):=if_neg (by omega)
  rw[e,hs];exact zcN (zaz h' hx hf ho) (by omega)
 ·rw[zgp hx hv hs,hs]
  exact zhY h hx hf hv
def zea(os:List Ob)(o f:Int)(v:V3):List Ob:=if slW os o f=0 then os.set (o - 1).toNat { os.getD (o - 1).toNat obZ with vs:=(os.getD (o - 1).toNat obZ).vs.set f.toNat v } else os
theorem zhm{os:List Ob}{x:Ob}(u:V3)(hx:os[j]? = some x)(h:slW os ((j:Int)+1) (i:Int)=0):zea os ((j:Int)+1) (i:Int) u=os.set j { x with vs:=x.vs.set i u }:=by
 have e:os.getD j obZ=x:=by rw[List.getD_eq_getElem?_getD,hx];rfl
 unfold zea;rw[if_pos h,show ((j:Int)+1 - 1).toNat=j by omega,e,show ((i:Int)).toNat=i by omega]
theorem zdy(u:V3)(H:Calls Tryz.prog 224 #[pv,int i64 o,int i64 f] (w.alloc (.cells #[int i64 u.1,int i64 u.2.1,.bool u.2.2] 30)) fun e w'=>e=.returned (.tuple #[.pointer none,int i64 y])∧za [] (w.alloc (.cells #[int i64 u.1,int i64 u.2.1,.bool u.2.2] 30)) w')(hy:y≠0):
  Calls Tryz.prog 150 #[pv,int i64 o,int i64 f,vlV u] w fun e w'=>e=.returned (int i64 y)∧za [] w w':=by
 have H:=hid H;have KA:=hid (za.alloc [] w (.cells #[int i64 u.1,int i64 u.2.1,.bool u.2.2] 30));go_enter Tryz.func150,Tryz.ntmps150;go_wp2_with fail;refine H.o.mono ?_;rintro e w1 ⟨rfl,k1⟩;have KK:=hid (KA.o.quiet k1);clear k1 H;go_wp2_with fail;go_ret;exact ⟨rfl,KK.o⟩
theorem ziB{os:List Ob}(h:HpV w hp sv os F){x:Ob}{v:V3}(hx:os[j]? = some x)(hf:x.free=false)(hv:x.vs[i]? = some v)(u:V3):
  Calls Tryz.prog 150 #[pointer (some ⟨hp,0,none⟩),int i64 ((j:Int)+1),int i64 (i:Int),vlV u] w fun e w'=>e=.returned (int i64 0)∧Hp w' hp (os.set j { x with vs:=x.vs.set i u }) F∧za F w w':=by
 obtain ⟨b,cap,hb,hbF,d0,d1,d2,hz⟩:=h.obs.field hx hv;have KA:=hid (za.alloc [] w (.cells #[int i64 u.1,int i64 u.2.1,.bool u.2.2] 30));have HA:=hid (h.kept KA.o (fun _ _=>by simp));have H:=hid (zcW HA.o hx hf (List.getElem?_eq_some_iff.1 hv).1 hb);have HN:=hid (zd w (.cells #[int i64 u.1,int i64 u.2.1,.bool u.2.2] 30));have HX:=hid hx;have HV:=hid hv;have HBB:=hid hb;have HF:=hid hbF;clear h hx hf hv hb d0 d1 d2 hz hbF;go_enter Tryz.func150,Tryz.ntmps150;go_wp2_with fail;refine H.o.mono ?_;rintro e w1 ⟨rfl,k1⟩;have HB:=hid (ze HN.o k1);have c0:=zc HB.o 0;have c1:=zc HB.o 1;have c2:=zc HB.o 2;have KK:=hid (KA.o.quiet k1);have H1:=hid (HA.o.kept k1 (fun _ _=>by simp));obtain ⟨b',cap',hb',_,d0,d1,d2,hz⟩:=H1.o.obs.field HX.o HV.o;have e:=HBB.o;rw[hb'] at e;simp at e;obtain ⟨rfl,rfl⟩:=e;have z0:=hz (i * 3);have z1:=hz (i * 3+1);have z2:=hz (i * 3+2);clear k1 H HN hz hb';go_wp2_with fail;go_ret;have hp1:=H1.o.obs.put (by decide) (fun _ _=>rfl) HX.o HV.o HBB.o u;have k3:za [b'] w1 (((w1.setCell ⟨b',i * 3,none⟩ (v3 u).1).setCell ⟨b',i * 3+1,none⟩ (v3 u).2.1).setCell ⟨b',i * 3+2,none⟩ (v3 u).2.2):=((za.setCell [b'] _ _ _ (List.mem_singleton.2 rfl)).step (za.setCell [b'] _ _ _ (List.mem_singleton.2 rfl))).step (za.setCell [b'] _ _ _ (List.mem_singleton.2 rfl));refine ⟨rfl,⟨sv,?_,H1.o.hin,hp1⟩,(KK.o.mono (L':=F) (fun x hx=>by cases hx)).step (k3.mono (fun x hx=>by rw[List.mem_singleton.1 hx];exact HF.o))⟩;have hne:hp≠b':=fun e=>by
  subst e;have own:=H1.o.obs.fld j x HX.o;rw[HBB.o] at own;rcases own.2 with ⟨h',_⟩ | ⟨g,_,cur,h',_,hg,_⟩
  ·simp at h'
  ·simp at h'
   obtain ⟨rfl,_⟩:=h';rw[H1.o.box] at hg;simp at hg
 exact (k3.block hp (zx H1.o.box) (by simpa using hne)).trans H1.o.box
theorem zgY{os:List Ob}(h:Hp w hp os F)(o f:Int)(u:V3):
  Calls Tryz.prog 150 #[pointer (some ⟨hp,0,none⟩),int i64 o,int i64 f,vlV u] w fun e w'=>e=.returned (int i64 (slW os o f))∧Hp w' hp (zea os o f u) F∧za F w w':=by
 obtain ⟨sv,h⟩:=h;have ka:=za.alloc [] w (.cells #[int i64 u.1,int i64 u.2.1,.bool u.2.2] 30);have h':=h.kept ka (fun _ _=>by simp);have still:∀ {w':World} ,za [] w w'→Hp w' hp os F∧za F w w':=fun k=>⟨⟨sv,h.kept k (fun _ _=>by simp)⟩,k.mono (fun x hx=>by cases hx)⟩;rcases Jx os o f with ⟨h0,h1,h2⟩ | ⟨j,x,rfl,hx,hf,ho,hs⟩ | ⟨j,i,x,v,rfl,rfl,hx,hf,hv,hs⟩
 ·have e:zea os o f u=os:=if_neg h0
  rw[e,h2];refine (zdy u (zbf f (Zs h' h1) h1) h1).mono ?_;rintro e w1 ⟨rfl,k1⟩;exact ⟨rfl,still k1⟩
 ·have e:zea os ((j:Int)+1) f u=os:=if_neg (by omega)
  rw[e,hs];refine (zdy u (zaz h' hx hf ho) (by omega)).mono ?_;rintro e w1 ⟨rfl,k1⟩;exact ⟨rfl,still k1⟩
 ·rw[zhm u hx hs,hs]
  exact ziB h hx hf hv u
def Qe(os:List Ob)(o:Int):List Ob:=if foW os o=0 then os.set (o - 1).toNat ⟨(os.getD (o - 1).toNat obZ).site,true,.slice none 0 0,[]⟩ else os
theorem zfd{os:List Ob}{x:Ob}(hx:os[j]? = some x)(h:foW os ((j:Int)+1)=0):Qe os ((j:Int)+1)=os.set j ⟨x.site,true,.slice none 0 0,[]⟩:=by
 have e:os.getD j obZ=x:=by rw[List.getD_eq_getElem?_getD,hx];rfl
 unfold Qe;rw[if_pos h,show ((j:Int)+1 - 1).toNat=j by omega,e]
theorem zeF(H:Calls Tryz.prog 225 #[pv,int i64 o] w fun e w'=>e=.returned (.tuple #[.pointer none,int i64 y])∧za [] w w')(hy:y≠0):
  Calls Tryz.prog 152 #[pv,int i64 o] w fun e w'=>e=.returned (int i64 y)∧za [] w w':=by
 have H:=hid H;go_enter Tryz.func152,Tryz.ntmps152;go_wp2_with fail;refine H.o.mono ?_;rintro e w1 ⟨rfl,k1⟩;have KK:=hid k1;clear k1 H;go_wp2_with fail;go_ret;exact ⟨rfl,KK.o⟩
theorem zgz{os:List Ob}(h:HpV w hp sv os F){x:Ob}(hx:os[j]? = some x)(hf:x.free=false):
  Calls Tryz.prog 152 #[pointer (some ⟨hp,0,none⟩),int i64 ((j:Int)+1)] w fun e w'=>e=.returned (int i64 0)∧Hp w' hp (os.set j ⟨x.site,true,.slice none 0 0,[]⟩) F∧za F w w':=by
 obtain ⟨g,cap,hs,_⟩:=h.obs.at hx;have H:=hid (jJ h hs hx hf);have HA:=hid h;have HX:=hid hx;have HS:=hid hs;clear h hx hf hs;go_enter Tryz.func152,Tryz.ntmps152;go_wp2_with fail;refine H.o.mono ?_;rintro e w1 ⟨rfl,k1⟩;have KK:=hid k1;have H1:=hid (HA.o.kept k1 (fun _ _=>by simp));obtain ⟨g',cap',hs',_,_,d0,d1,d2,hz,hg⟩:=H1.o.obs.at HX.o;rw[HS.o] at hs';simp at hs';obtain ⟨rfl,rfl⟩:=hs';have D0:=hid d0;have z1:=hz (j * 3+1);have z2:=hz (j * 3+2);clear k1 H hz d0;go_wp2_with fail;go_ret;have own:=H1.o.obs.own;rw[HS.o] at own;have o2:=((own.stored (j * 3+1) (.bool true)).1.stored (j * 3+2) (.slice none 0 0)).1;have er:Za ob3 (os.set j ⟨x.site,true,.slice none 0 0,[]⟩)=((Za ob3 os).set (j * 3+1) (.bool true)).set (j * 3+2) (.slice none 0 0):=by
  have h0:(Za ob3 os)[j * 3]? = some (int i64 x.site):=(jv ob3 os j x HX.o).1;rw[ZA ob3 os j x _ HX.o];show (((Za ob3 os).set (j * 3) (int i64 x.site)).set (j * 3+1) (.bool true)).set (j * 3+2) (.slice none 0 0)=_;rw[Z6 h0]
 rw[← er, ← HS.o] at o2;have k2:za [g] w1 ((w1.setCell ⟨g,j * 3+1,none⟩ (.bool true)).setCell ⟨g,j * 3+2,none⟩ (.slice none 0 0)):=(za.setCell [g] _ _ _ (List.mem_singleton.2 rfl)).step (za.setCell [g] _ _ _ (List.mem_singleton.2 rfl));have hob:sv.ownBlock=some g:=by rw[HS.o];rfl
 have hgF:=H1.o.obs.row g hob;refine ⟨rfl,⟨sv,?_,H1.o.hin,H1.o.obs.turn (by decide) HX.o (by rw[hob];exact k2) o2 (.inr ⟨rfl,rfl⟩)⟩,(KK.o.mono (L':=F) (fun x hx=>by cases hx)).step (k2.mono (fun x hx=>by rw[List.mem_singleton.1 hx];exact hgF))⟩;have hne:hp≠g:=fun e=>by
  subst e;rcases own.2 with ⟨h',_⟩ | ⟨g,_,cur,h',_,hg,_⟩
  ·simp at h'
  ·simp at h'
   obtain ⟨rfl,_⟩:=h';rw[H1.o.box] at hg;simp at hg
 exact (k2.block hp (zx H1.o.box) (by simpa using hne)).trans H1.o.box
theorem zfh{os:List Ob}(h:Hp w hp os F)(o:Int):
  Calls Tryz.prog 152 #[pointer (some ⟨hp,0,none⟩),int i64 o] w fun e w'=>e=.returned (int i64 (foW os o))∧Hp w' hp (Qe os o) F∧za F w w':=by
 obtain ⟨sv,h⟩:=h;by_cases hw:foW os o=0
 ·obtain ⟨j,x,rfl,hx,hf⟩:=zga hw
  rw[zfd hx hw,hw];exact zgz h hx hf
 ·have e:Qe os o=os:=if_neg hw
  rw[e];refine (zeF (Zs h hw) hw).mono ?_;rintro e w1 ⟨rfl,k1⟩;exact ⟨rfl,⟨sv,h.kept k1 (fun _ _=>by simp)⟩,k1.mono (fun x hx=>by cases hx)⟩
def qz(R B:Nat)(fin reg tt els:Int):Bool:=
 if fin=1 then decide (reg=0) && (inB tt B && decide (els=0)) else if fin=2 then inB reg R && (inB tt B && inB els B) else if fin=3 then inB reg R && (decide (tt=0) && decide (els=0)) else false
theorem zjx(R B:Nat)(reg tt els:Int)(fb fo bb bo:Nat)(ba:Option Addr)(bp:Nat)(w:World)(h2:w.cell? ⟨fb,fo+2,none⟩=some (.slice ba B bp))(e1:w.cell? ⟨bb,bo+1,none⟩=some (int i64 1))(e2:w.cell? ⟨bb,bo+2,none⟩=some (int i64 reg))(e3:w.cell? ⟨bb,bo+3,none⟩=some (int i64 tt))(e4:w.cell? ⟨bb,bo+4,none⟩=some (int i64 els)):
  Calls Tryz.prog 193 #[pointer (some ⟨fb,fo,none⟩),pointer (some ⟨bb,bo,none⟩)] w fun e w'=>e=.returned (.bool (qz R B 1 reg tt els))∧za [] w w':=by
 by_cases hreg:reg=0
 case neg=>
  have greg:=neb hreg;have HE:Box (qz R B 1 reg tt els=false):=hid (by simp[qz,hreg]);clear hreg;generalize qz R B 1 reg tt els=res at *;go_enter Tryz.func193,Tryz.ntmps193;go_upto_region 3 with fail;go_quiet (fail);go_wp2_with fail;go_ret;exact ⟨by rw[HE.o];rfl,za.drewN _ _ _⟩
 have greg:=eqb hreg;by_cases htt:inB tt B=true
 case neg=>
  have htt:inB tt B=false:=by simpa using htt
  have Wtt:=hid fun (w:World)=>zo tt B w;rw[htt] at Wtt;have HE:Box (qz R B 1 reg tt els=false):=hid (by simp[qz,hreg,htt]);clear hreg htt;generalize qz R B 1 reg tt els=res at *;go_enter Tryz.func193,Tryz.ntmps193;go_upto_region 3 with fail;go_quiet ((go_at_call 123;first | with_reducible exact Calls.quiet_of_same (Wtt.o _)));go_wp2_with fail;go_ret;exact ⟨by rw[HE.o];rfl,za.drewN _ _ _⟩
 have Wtt:=hid fun (w:World)=>zo tt B w;rw[htt] at Wtt;by_cases hels:els=0
 case neg=>
  have gels:=neb hels;have HE:Box (qz R B 1 reg tt els=false):=hid (by simp[qz,hreg,htt,hels]);clear hreg htt hels;generalize qz R B 1 reg tt els=res at *;go_enter Tryz.func193,Tryz.ntmps193;go_upto_region 3 with fail;go_quiet ((go_at_call 123;first | with_reducible exact Calls.quiet_of_same (Wtt.o _)));go_wp2_with fail;go_ret;exact ⟨by rw[HE.o];rfl,za.drewN _ _ _⟩
 have gels:=eqb hels;have HE:Box (qz R B 1 reg tt els=true):=hid (by simp[qz,hreg,htt,hels]);clear hreg htt hels;generalize qz R B 1 reg tt els=res at *;go_enter Tryz.func193,Tryz.ntmps193;go_upto_region 3 with fail;go_quiet ((go_at_call 123;first | with_reducible exact Calls.quiet_of_same (Wtt.o _)));go_wp2_with fail;go_ret;exact ⟨by rw[HE.o];rfl,za.drewN _ _ _⟩
theorem zj5(R B:Nat)(reg tt els:Int)(fb fo bb bo:Nat)(ra ba:Option Addr)(rp bp:Nat)(w:World)(h1:w.cell? ⟨fb,fo+1,none⟩=some (.slice ra R rp))(h2:w.cell? ⟨fb,fo+2,none⟩=some (.slice ba B bp))(e1:w.cell? ⟨bb,bo+1,none⟩=some (int i64 2))(e2:w.cell? ⟨bb,bo+2,none⟩=some (int i64 reg))(e3:w.cell? ⟨bb,bo+3,none⟩=some (int i64 tt))(e4:w.cell? ⟨bb,bo+4,none⟩=some (int i64 els)):
  Calls Tryz.prog 193 #[pointer (some ⟨fb,fo,none⟩),pointer (some ⟨bb,bo,none⟩)] w fun e w'=>e=.returned (.bool (qz R B 2 reg tt els))∧za [] w w':=by
 by_cases hreg:inB reg R=true
 case neg=>
  have hreg:inB reg R=false:=by simpa using hreg
  have Wreg:=hid fun (w:World)=>zo reg R w;rw[hreg] at Wreg;have HE:Box (qz R B 2 reg tt els=false):=hid (by simp[qz,hreg]);clear hreg;generalize qz R B 2 reg tt els=res at *;go_enter Tryz.func193,Tryz.ntmps193;go_upto_region 5 with fail;go_quiet ((go_at_call 123;first | with_reducible exact Calls.quiet_of_same (Wreg.o _)));go_wp2_with fail;go_ret;exact ⟨by rw[HE.o];rfl,za.drewN _ _ _⟩
 have Wreg:=hid fun (w:World)=>zo reg R w;rw[hreg] at Wreg;by_cases htt:inB tt B=true
 case neg=>
  have htt:inB tt B=false:=by simpa using htt
  have Wtt:=hid fun (w:World)=>zo tt B w;rw[htt] at Wtt;have HE:Box (qz R B 2 reg tt els=false):=hid (by simp[qz,hreg,htt]);clear hreg htt;generalize qz R B 2 reg tt els=res at *;go_enter Tryz.func193,Tryz.ntmps193;go_upto_region 5 with fail;go_quiet ((go_at_call 123;first | with_reducible exact Calls.quiet_of_same (Wreg.o _) | with_reducible exact Calls.quiet_of_same (Wtt.o _)));go_wp2_with fail;go_ret;exact ⟨by rw[HE.o];rfl,za.drewN _ _ _⟩
 have Wtt:=hid fun (w:World)=>zo tt B w;rw[htt] at Wtt;by_cases hels:inB els B=true
 case neg=>
  have hels:inB els B=false:=by simpa using hels
  have Wels:=hid fun (w:World)=>zo els B w;rw[hels] at Wels;have HE:Box (qz R B 2 reg tt els=false):=hid (by simp[qz,hreg,htt,hels]);clear hreg htt hels;generalize qz R B 2 reg tt els=res at *;go_enter Tryz.func193,Tryz.ntmps193;go_upto_region 5 with fail;go_quiet ((go_at_call 123;first | with_reducible exact Calls.quiet_of_same (Wreg.o _) | with_reducible exact Calls.quiet_of_same (Wtt.o _) | with_reducible exact Calls.quiet_of_same (Wels.o _)));go_wp2_with fail;go_ret;exact ⟨by rw[HE.o];rfl,za.drewN _ _ _⟩
 have Wels:=hid fun (w:World)=>zo els B w;rw[hels] at Wels;have HE:Box (qz R B 2 reg tt els=true):=hid (by simp[qz,hreg,htt,hels]);clear hreg htt hels;generalize qz R B 2 reg tt els=res at *;go_enter Tryz.func193,Tryz.ntmps193;go_upto_region 5 with fail;go_quiet ((go_at_call 123;first | with_reducible exact Calls.quiet_of_same (Wreg.o _) | with_reducible exact Calls.quiet_of_same (Wtt.o _) | with_reducible exact Calls.quiet_of_same (Wels.o _)));go_wp2_with fail;go_ret;exact ⟨by rw[HE.o];rfl,za.drewN _ _ _⟩
theorem zjM(R B:Nat)(reg tt els:Int)(fb fo bb bo:Nat)(ra:Option Addr)(rp:Nat)(w:World)(h1:w.cell? ⟨fb,fo+1,none⟩=some (.slice ra R rp))(e1:w.cell? ⟨bb,bo+1,none⟩=some (int i64 3))(e2:w.cell? ⟨bb,bo+2,none⟩=some (int i64 reg))(e3:w.cell? ⟨bb,bo+3,none⟩=some (int i64 tt))(e4:w.cell? ⟨bb,bo+4,none⟩=some (int i64 els)):
  Calls Tryz.prog 193 #[pointer (some ⟨fb,fo,none⟩),pointer (some ⟨bb,bo,none⟩)] w fun e w'=>e=.returned (.bool (qz R B 3 reg tt els))∧za [] w w':=by
 by_cases hreg:inB reg R=true
 case neg=>
  have hreg:inB reg R=false:=by simpa using hreg
  have Wreg:=hid fun (w:World)=>zo reg R w;rw[hreg] at Wreg;have HE:Box (qz R B 3 reg tt els=false):=hid (by simp[qz,hreg]);clear hreg;generalize qz R B 3 reg tt els=res at *;go_enter Tryz.func193,Tryz.ntmps193;go_upto_region 7 with fail;go_quiet ((go_at_call 123;first | with_reducible exact Calls.quiet_of_same (Wreg.o _)));go_wp2_with fail;go_ret;exact ⟨by rw[HE.o];rfl,za.drewN _ _ _⟩
 have Wreg:=hid fun (w:World)=>zo reg R w;rw[hreg] at Wreg;by_cases htt:tt=0
 case neg=>
  have gtt:=neb htt;have HE:Box (qz R B 3 reg tt els=false):=hid (by simp[qz,hreg,htt]);clear hreg htt;generalize qz R B 3 reg tt els=res at *;go_enter Tryz.func193,Tryz.ntmps193;go_upto_region 7 with fail;go_quiet ((go_at_call 123;first | with_reducible exact Calls.quiet_of_same (Wreg.o _)));go_wp2_with fail;go_ret;exact ⟨by rw[HE.o];rfl,za.drewN _ _ _⟩
 have gtt:=eqb htt;by_cases hels:els=0
 case neg=>
  have gels:=neb hels;have HE:Box (qz R B 3 reg tt els=false):=hid (by simp[qz,hreg,htt,hels]);clear hreg htt hels;generalize qz R B 3 reg tt els=res at *;go_enter Tryz.func193,Tryz.ntmps193;go_upto_region 7 with fail;go_quiet ((go_at_call 123;first | with_reducible exact Calls.quiet_of_same (Wreg.o _)));go_wp2_with fail;go_ret;exact ⟨by rw[HE.o];rfl,za.drewN _ _ _⟩
 have gels:=eqb hels;have HE:Box (qz R B 3 reg tt els=true):=hid (by simp[qz,hreg,htt,hels]);clear hreg htt hels;generalize qz R B 3 reg tt els=res at *;go_enter Tryz.func193,Tryz.ntmps193;go_upto_region 7 with fail;go_quiet ((go_at_call 123;first | with_reducible exact Calls.quiet_of_same (Wreg.o _)));go_wp2_with fail;go_ret;exact ⟨by rw[HE.o];rfl,za.drewN _ _ _⟩
theorem zil(R B:Nat)(fin reg tt els:Int)(fb fo bb bo:Nat)(w:World)(hf:¬ (1≤fin∧fin≤3))(e1:w.cell? ⟨bb,bo+1,none⟩=some (int i64 fin)):
  Calls Tryz.prog 193 #[pointer (some ⟨fb,fo,none⟩),pointer (some ⟨bb,bo,none⟩)] w fun e w'=>e=.returned (.bool (qz R B fin reg tt els))∧za [] w w':=by
 have HE:Box (qz R B fin reg tt els=false):=hid (by unfold qz;rw[if_neg (by omega),if_neg (by omega),if_neg (by omega)]);have o1:=neb (show fin≠1 by omega);have o2:=neb (show fin≠2 by omega);have o3:=neb (show fin≠3 by omega);clear hf;generalize qz R B fin reg tt els=res at *;go_enter Tryz.func193,Tryz.ntmps193;go_wp2_with fail;go_ret;exact ⟨by rw[HE.o];rfl,za.refl _ _⟩
theorem zhe{fb fo bb bo:Nat}{x:Fu8}{y:Bl8}(h:FuC w fb fo x)(hb:BlC w bb bo y):Calls Tryz.prog 193 #[pointer (some ⟨fb,fo,none⟩),pointer (some ⟨bb,bo,none⟩)] w fun e w'=>e=.returned (.bool (qz x.regs.length x.blocks.length y.fin y.reg y.to y.els))∧za [] w w':=by
 obtain ⟨ra,rp,h1,_⟩:=h.c1;obtain ⟨ba,bp,h2,_⟩:=h.c2;have e1:=hb.c1.1;have e2:=hb.c2.1;have e3:=hb.c3.1;have e4:=hb.c4.1;by_cases hf:1≤y.fin∧y.fin≤3
 ·rcases (show y.fin=1∨y.fin=2∨y.fin=3 by omega) with e | e | e
  all_goals rw[e] at e1 ⊢
  ·exact zjx _ _ _ _ _ fb fo bb bo ba bp w h2 e1 e2 e3 e4
  ·exact zj5 _ _ _ _ _ fb fo bb bo ra ba rp bp w h1 h2 e1 e2 e3 e4
  ·exact zjM _ _ _ _ _ fb fo bb bo ra rp w h1 e1 e2 e3 e4
 ·exact zil _ _ _ _ _ _ fb fo bb bo w hf e1
end Go.Proofs.YthflgjkmbakedaaGreatDoor
