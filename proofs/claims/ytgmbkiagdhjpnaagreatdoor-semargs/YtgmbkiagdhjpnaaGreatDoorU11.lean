import Derived.Test.YtgmbkiagdhjpnaaGreatDoorU10

namespace Go.Proofs.YtgmbkiagdhjpnaaGreatDoor
open Go.RowKit
open Go.Value (int pointer agg)
open Go.IntKind (i64)
set_option maxRecDepth 20000
set_option maxHeartbeats 4000000
variable {F:List Nat}{hp k:Nat}{l:List (Int × Int)}{sv:Value}{w:World}
theorem zhc:Tryz.prog.info? 158=some Tryz.t158:=by kernel_rfl
theorem zdr:Tryz.prog.underlying 109=some (.slice 158):=by kernel_rfl
theorem zhi:Tryz.t158.zero=some (agg #[int i64 0,.bool false,.slice none 0 0]):=by kernel_rfl
theorem zgb:Tryz.t158.size=3:=by kernel_rfl
theorem zfP:Tryz.t158.bytes=40:=by kernel_rfl
theorem zi9:Tryz.prog.info? 39=some Tryz.t39:=by kernel_rfl
theorem zdB:Tryz.prog.underlying 128=some (.slice 39):=by kernel_rfl
theorem zjj:Tryz.t39.zero=some (agg #[int i64 0,int i64 0,.bool false]):=by kernel_rfl
theorem zix:Tryz.t39.size=3:=by kernel_rfl
theorem zht:Tryz.t39.bytes=24:=by kernel_rfl
def fill(l:List (Int × Int))(k:Nat):List V3:=(l.take k).map qX ++ List.replicate (l.length - k) (0,0,false)
theorem zh2(l:List (Int × Int))(k:Nat):(fill l k).length=l.length:=by
 unfold fill;rw[List.length_append,List.length_map,List.length_take,List.length_replicate];omega
theorem zhE(l:List (Int × Int)):fill l l.length=l.map qX:=by
 unfold fill;rw[List.take_length,Nat.sub_self];simp
theorem zeQ(h:k<l.length):∃ v,(fill l k)[k]? = some v:=⟨_,List.getElem?_eq_getElem (by rw[zh2];exact h)⟩
theorem zeV{t:Int × Int}(h:l[k]? = some t):(fill l k).set k (qX t)=fill l (k+1):=by
 have hk:=(List.getElem?_eq_some_iff.1 h).1;unfold fill;have hl:((l.take k).map qX).length=k:=by rw[List.length_map,List.length_take];omega
 rw[List.set_append_right _ _ (by omega),hl,Nat.sub_self,List.take_add_one,h,show l.length - k=(l.length - (k+1))+1 by omega,List.replicate_succ];simp
theorem zg9(Z:Array Value)(n j i:Nat)(hj:j<n)(hi:i<Z.size):(madeCells Z (n * Z.size))[j * Z.size+i]? = Z[i]? := by
 have hlt:j * Z.size+i<n * Z.size:=by
  have h1:(j+1) * Z.size≤n * Z.size:=Nat.mul_le_mul_right _ hj;rw[Nat.add_mul] at h1;omega
 unfold madeCells;rw[Array.getElem?_map,Array.getElem?_eq_getElem (by simpa using hlt)];simp only[Array.getElem_range,Option.map_some];rw[Nat.add_comm,Nat.add_mul_mod_self_right,Nat.mod_eq_of_lt hi,Array.getElem?_eq_getElem hi,getElem!_pos Z i hi]
theorem zhe(n:Nat):(madeCells #[int i64 0,int i64 0,.bool false] (n * 3)).toList=Z6 v3 (List.replicate n (0,0,false)):=by
 apply List.ext_getElem?;intro j;by_cases hj:j<n * 3
 ·have hr:(List.replicate n ((0,0,false):V3))[j / 3]? = some (0,0,false):=by rw[List.getElem?_replicate,if_pos (by omega)]
  obtain ⟨g0,g1,g2⟩:=jZ v3 _ _ _ hr;have hm:j % 3=0∨j % 3=1∨j % 3=2:=by omega
  have hc:∀ i,i<3→j % 3=i→(madeCells #[int i64 0,int i64 0,.bool false] (n * 3)).toList[j]? = (#[int i64 0,int i64 0,.bool false]:Array Value)[i]? := fun i hi e=>by
   have:=zg9 (#[int i64 0,int i64 0,.bool false]:Array Value) n (j / 3) i (by omega) (by show i<3;omega);rw[show j / 3 * (#[int i64 0,int i64 0,.bool false]:Array Value).size+i=j by show j / 3 * 3+i=j;omega] at this;rw[Array.getElem?_toList];exact this
  rcases hm with e | e | e
  ·rw[hc 0 (by omega) e,show j=j / 3 * 3 by omega,g0];rfl
  ·rw[hc 1 (by omega) e,show j=j / 3 * 3+1 by omega,g1];rfl
  ·rw[hc 2 (by omega) e,show j=j / 3 * 3+2 by omega,g2];rfl
 ·rw[List.getElem?_eq_none (by simp[madeCells];omega),List.getElem?_eq_none (by rw[zg5,List.length_replicate];omega)]
theorem zh8(n:Nat)(hn:n≤1000000)(w:World):(Instr.makeSlice 128 (int i64 (n:Int)) (int i64 (n:Int))).run Tryz.prog w=.ok (.slice (some ⟨w.heap.size,0,none⟩) n n) (w.alloc (.cells (madeCells #[int i64 0,int i64 0,.bool false] (n * 3)) 39)):=by
 have:=run_make (P:=Tryz.prog) w 128 39 Tryz.t39 (agg #[int i64 0,int i64 0,.bool false]) zdB zi9 zjj .i64 .i64 n n (by omega) (by omega) (by rw[zht];omega) (by omega);rw[zix,Int.toNat_natCast] at this;exact this
structure Fil (w0 wr:World) (q:Nat) (l:List (Int × Int)) (k:Nat):Prop where
 own:wr.ownsRow 0 39 3 (.slice (some ⟨q,0,none⟩) l.length l.length) l.length (Z6 v3 (fill l k))
 keeps:za [] w0 wr
 new:w0.heap.size≤q
theorem Fil.still{w0 wr w1:World}{q:Nat}(h:Fil w0 wr q l k)(k1:za [] wr w1):Fil w0 w1 q l k:=⟨zh h.own k1 (fun _ _=>by simp),h.keeps.quiet k1,h.new⟩
theorem Fil.step{w0 wr:World}{q:Nat}(h:Fil w0 wr q l k){t:Int × Int}(ht:l[k]? = some t):
  Fil w0 (((wr.setCell ⟨q,k * 3,none⟩ (v3 (qX t)).1).setCell ⟨q,k * 3+1,none⟩ (v3 (qX t)).2.1).setCell ⟨q,k * 3+2,none⟩ (v3 (qX t)).2.2) q l (k+1):=by
 obtain ⟨v,hv⟩:=zeQ (List.getElem?_eq_some_iff.1 ht).1;have o3:=(((h.own.stored (k * 3) (v3 (qX t)).1).1.stored (k * 3+1) (v3 (qX t)).2.1).1.stored (k * 3+2) (v3 (qX t)).2.2).1;rw[← Qo v3 _ k v _ hv,zeV ht] at o3;refine ⟨o3,h.keeps.trans (L':=[q]) (((za.setCell [q] _ _ _ (List.mem_singleton.2 rfl)).step (za.setCell [q] _ _ _ (List.mem_singleton.2 rfl))).step (za.setCell [q] _ _ _ (List.mem_singleton.2 rfl))) (fun x hx hl=> ?_),h.new⟩;rw[List.mem_singleton.1 hx] at hl;have:=h.new;omega
def AlP(w:World)(hp:Nat)(os:List Ob)(F:List Nat)(site:Int)(l:List (Int × Int))(e:Ending)(w':World):Prop:=
 e=.returned (int i64 ((os.length:Int)+1))∧∃ fs F',Hp w' hp (os ++ [⟨site,false,fs,l.map qX⟩]) F'∧za F w w'∧ja w F F'∧∀ x,x∈F→x∈F'
theorem zc8{os:List Ob}(h:Hp w hp os F)(hn:400≤os.length)(site:Int)(rv:Value):
  Calls Tryz.prog 90 #[pointer (some ⟨hp,0,none⟩),int i64 site,rv] w fun e w'=>e=.returned (int i64 0)∧za [] w w':=by
 obtain ⟨sv,h⟩:=h;obtain ⟨a,cap,hs,_⟩:=h.obs.len;have p0:=zc h.box 0;rw[hs] at p0;generalize os.length=n at *;have hn':(400:Int)≤(n:Int):=by omega
 clear h hs hn;go_enter Tryz.func90,Tryz.ntmps90;go_wp2;go_ret;exact ⟨rfl,za.refl _ _⟩
theorem Obs.far{w':World}{T U:TypeId}{f:Ob→Value × Value × Value}{os:List Ob}(h:Obs w T f sv os F){b:Nat}{cs:Array Value}(hb:w.heap[b]? = some (.cells cs U (0,0)))(h1:T≠U)(h2:39≠U)(k:za [b] w w'):Obs w' T f sv os F:=by
 have ne:∀ {V:TypeId}{v:Value}{n:Nat}{xs:List Value},w.ownsRow 0 V 3 v n xs→V≠U→∀ c,v.ownBlock=some c→c ∉ [b]:=fun ho hne c hc hx=>by
  rw[List.mem_singleton] at hx;subst hx;rcases ho.2 with ⟨rfl,_⟩ | ⟨g,cap,cur,rfl,_,hg,_⟩
  ·simp[Value.ownBlock] at hc
  ·simp[Value.ownBlock] at hc
   subst hc;rw[hg] at hb;simp at hb;exact hne hb.2
 exact ⟨zh h.own k (ne h.own h1),fun j o hj=>zh (h.fld j o hj) k (ne (h.fld j o hj) h2),h.apart,h.row,h.fin,fun x hx=>Nat.lt_of_lt_of_le (h.lt x hx) k.size⟩
theorem HpV.still{wa w5:World}{os:List Ob}(h:HpV w hp sv os F)(ka:za [] w wa)(hg:wa.grownBy w5 sv.ownBlock):w5.heap[hp]? = some (.cells #[sv] 111 (0,0)):=by
 have hj:=zd h.box ka;rw[hg.block hp (zt hj) (fun e=> ?_)]
 ·exact hj
 ·rcases (h.obs.quiet ka).own.2 with ⟨hv,_⟩ | ⟨g,cap,cur,hv,_,hh,_⟩
  ·rw[hv] at e
   simp[Value.ownBlock] at e
  ·rw[hv] at e
   simp[Value.ownBlock] at e;subst e;rw[hh] at hj;simp at hj
theorem HpV.push{wa w5:World}{sv':Value}{os:List Ob}{o:Ob}(h:HpV w hp sv os F)(ka:za [] w wa)(ho:wa.ownsRow 0 39 3 o.fs o.vs.length (Z6 v3 o.vs))(hnew:∀ k,o.fs.ownBlock=some k→k ∉ F)(own:w5.ownsRow 0 158 3 sv' (os.length+1) (Z6 ob3 (os ++ [o])))(hg:wa.grownBy w5 sv.ownBlock):
  HpV (w5.setCell ⟨hp,0,none⟩ sv') hp sv' (os ++ [o]) (F ++ (sv'.ownBlock.toList ++ o.fs.ownBlock.toList))∧za F wa (w5.setCell ⟨hp,0,none⟩ sv'):=by
 have box:=h.still ka hg;have k5:za [hp] w5 (w5.setCell ⟨hp,0,none⟩ sv'):=za.setCell _ _ _ _ (List.mem_singleton.2 rfl);refine ⟨⟨heap_setCell_same _ _ 0 _ _ _ box,List.mem_append_left _ h.hin,(h.obs.push (by decide) ka ho hnew own hg).far box (by decide) (by decide) k5⟩,?_⟩;exact (za.grown F hg (fun k hk=>h.obs.row k hk)).step (k5.mono (fun x hx=>by rw[List.mem_singleton.1 hx];exact h.hin))
theorem zey(site:Int)(fs:Value)(h:fs.oneCell'=true):∀ u∈[Value.int .i64 site,.bool false,fs],u.oneCell'=true:=by
 intro u hu;simp at hu;rcases hu with rfl | rfl | rfl
 ·rfl
 ·rfl
 ·exact h
theorem zcB{os:List Ob}(h:Hp w hp os F)(hn:os.length<400)(site:Int){a:Option Addr}{cp:Nat}(hr:zq w 2 TyC a l)(hl:l.length≤1000):
  Calls Tryz.prog 90 #[pointer (some ⟨hp,0,none⟩),int i64 site,.slice a l.length cp] w (AlP w hp os F site l):=by
 obtain ⟨sv,h⟩:=h;obtain ⟨sa,sc,hs,_⟩:=h.obs.len;have HH:=hid h;have HS:=hid hs;have HR:=hid hr;have p0:=zc h.box 0;rw[hs] at p0;have hn':¬ (400:Int)≤(os.length:Int):=by omega
 obtain ⟨n,hN⟩:∃ n,n=os.length:=⟨_,rfl⟩;rw[← hN] at p0 hn' hn;have HN:=hid hN;obtain ⟨m,hM⟩:∃ m,m=l.length:=⟨_,rfl⟩;rw[← hM];rw[← hM] at hl;have HM:=hid hM;have mk:=zh8 m (by omega);clear h hs hr hN hM;go_enter Tryz.func90,Tryz.ntmps90;go_upto_region 4 with fail
 have G0:Box (Fil w (w.alloc (.cells (madeCells #[int i64 0,int i64 0,.bool false] (m * 3)) 39)) w.heap.size l 0):=hid (by
  refine ⟨?_,za.alloc [] _ _,Nat.le_refl _⟩;have:=World.ownsRow_lit (base:=0) (e:=39) (size:=3) w (madeCells #[int i64 0,int i64 0,.bool false] (m * 3)) m (Nat.zero_le _) (by unfold maxLen;omega) (by simp[madeCells]);rw[zhe] at this;rw[← HM.o];unfold fill;rw[← HM.o]
  exact this)
 generalize w.alloc (.cells (madeCells #[int i64 0,int i64 0,.bool false] (m * 3)) 39)=w1 at *;obtain ⟨q,hq⟩:∃ q,q=w.heap.size:=⟨_,rfl⟩;rw[← hq] at G0 ⊢;clear hq mk p0;go_wp2_with fail
 go_loopw [25] (fun iv wr=>∃ (k:Nat),k≤m∧iv=int i64 (k:Int)∧Box (Fil w wr q l k)) (fun iv _=>m - (intOf iv).toNat)
 case atStart=>exact ⟨0,by omega,rfl,G0⟩
 case round=>
  obtain ⟨k,hk,rfl,HF⟩:=hrel;clear G0;by_cases hlt9:k<m
  ·have hlt':(k:Int)<(m:Int):=by omega
   obtain ⟨t,ht⟩:∃ t,l[k]? = some t:=⟨_,List.getElem?_eq_getElem (by rw[← HM.o];exact hlt9)⟩;have HT:=hid ht;obtain ⟨rb,ro,rfl,hc⟩:=(HR.o.quiet TyC.stays HF.o.keeps).at ht;have c0:=hc.c0.1;have c1:=hc.c1.1;have hrb:=block_lt_of_cell c0;clear hc ht;go_upto_region 7 with fail;have F1:=hid (HF.o.still (za.alloc [] wr (.cells #[int i64 t.1,int i64 t.2] 60)));have n0:=zc (ze wr (.cells #[int i64 t.1,int i64 t.2] 60)) 0;have n1:=zc (ze wr (.cells #[int i64 t.1,int i64 t.2] 60)) 1;generalize wr.alloc (.cells #[int i64 t.1,int i64 t.2] 60)=w2 at *;generalize wr.heap.size=tb at *;go_wp2_with fail;refine (zg0 t _).mono ?_;rintro e w3 ⟨rfl,k3⟩;have F2:=hid (F1.o.still k3);clear k3 F1 HF n0 n1 c0 c1 hrb;obtain ⟨v,hv⟩:=zeQ (l:=l) (k:=k) (by rw[← HM.o];exact hlt9);obtain ⟨g0,g1,g2⟩:=jZ v3 _ _ _ hv;have p0:=(F2.o.own.cellAt (k * 3) (by rw[← HM.o];omega)).trans g0;have p1:=(F2.o.own.cellAt (k * 3+1) (by rw[← HM.o];omega)).trans g1;have p2:=(F2.o.own.cellAt (k * 3+2) (by rw[← HM.o];omega)).trans g2;have z0:=F2.o.own.frozenAt (k * 3);have z1:=F2.o.own.frozenAt (k * 3+1);have z2:=F2.o.own.frozenAt (k * 3+2);have F3:=hid (F2.o.step HT.o);clear F2 hv g0 g1 g2;go_wp2_with fail;go_roundw
   case rel=>exact ⟨k+1,by omega,by go_num,F3⟩
   case measure=>simp[intOf];omega
  ·obtain rfl:m=k:=by omega
   have HK:=hid HF.o.keeps;have HV:=hid (HH.o.kept HK.o (fun _ _=>by simp));have p0:=zc HV.o.box 0;rw[HS.o, ← HN.o] at p0;have z0:=zg HV.o.box 0;have hbl:=zt HV.o.box;have own:=HV.o.obs.own;rw[HS.o, ← HN.o] at own;have HOW:=hid own
   have hfo:Box (wr.ownsRow 0 39 3 (.slice (some ⟨q,0,none⟩) m m) (l.map qX).length (Z6 v3 (l.map qX))):=hid (by
    have:=HF.o.own;rw[← HM.o,show fill l m=l.map qX by rw[HM.o];exact zhE l] at this;rw[List.length_map, ← HM.o]
    exact this)
   have hqn:=HF.o.new;clear own HR;go_wp2_with (at_builtin;go_must (refine wpList_append_lies _ rfl _ _ _ rfl 0 158 Tryz.t158 (agg #[int i64 0,.bool false,.slice none 0 0]) 3 40 zdr zhc zhi zgb zfP rfl (by decide) (.slice sa n sc) n (Z6 ob3 os) rfl (HOW.o.alloc _) ⟨wr.heap.size,0,none⟩ 1 1 [int i64 site,.bool false,.slice (some ⟨q,0,none⟩) m m] rfl rfl (World.news_of_block (cs:=#[int i64 site,.bool false,.slice (some ⟨q,0,none⟩) m m]) (t:=158) (fr:=(0,0)) (ze wr _)) (zey _ _ rfl) (by omega) (by unfold maxLen;omega) (by omega) (by simp) (wr.heap.size+1) (by simp) ?_;intro g5 cap5 w5 hown5 hgrow5 hat5 hlt5;have hbx:=HV.o.still (za.alloc [] wr (.cells #[int i64 site,.bool false,.slice (some ⟨q,0,none⟩) m m] 158)) (by rw[HS.o, ← HN.o];exact hgrow5);have p5:=zc hbx 0;have z5:=zg hbx 0;have HO5:=hid hown5;have HG5:=hid hgrow5;have HA5:=hid hat5;clear hown5 hgrow5 hat5 hbx));go_ret
   have P:=HV.o.push (o:=⟨site,false,.slice (some ⟨q,0,none⟩) m m,l.map qX⟩) (sv':=.slice (some ⟨g5,0,none⟩) (n+1) cap5) (za.alloc [] wr (.cells #[int i64 site,.bool false,.slice (some ⟨q,0,none⟩) m m] 158)) (hfo.o.alloc _) (fun k hk hx=>by
    simp[Value.ownBlock] at hk;subst hk;have:=HH.o.obs.lt _ hx
    omega) (by rw[zeT, ← HN.o];exact HO5.o) (by rw[HS.o, ← HN.o];exact HG5.o)
   refine ⟨by rw[← HN.o];simp,_,_,⟨_,P.1⟩,(HK.o.mono (L':=F) (fun x hx=>by cases hx)).step (((za.alloc [] _ _).mono (L':=F) (fun x hx=>by cases hx)).step P.2),fun x hx=> ?_,fun x hx=>List.mem_append_left _ hx⟩;rcases List.mem_append.1 hx with hx | hx
   ·exact .inl hx
   ·rcases List.mem_append.1 hx with hx | hx
    ·simp[Value.ownBlock] at hx
     subst hx;rcases HA5.o with e | e
     ·refine .inl (HH.o.obs.row _ ?_)
      rw[HS.o, ← HN.o];exact e
     ·have:=HK.o.size
      exact .inr (by omega)
    ·simp[Value.ownBlock] at hx
     subst hx;exact .inr hqn
end Go.Proofs.YtgmbkiagdhjpnaaGreatDoor
