import Derived.Test.YthflgjkmbakedaaGreatDoorA28

namespace Go.Proofs.YthflgjkmbakedaaGreatDoor
open Go.RowKit
open Go.Value (int pointer agg)
open Go.IntKind (i64)
set_option maxRecDepth 20000
set_option maxHeartbeats 8000000
variable {F:Fu8}{P:Pr8}{b f i pb po:Nat}{w:World}
def Qz(o:Option (Nat × Nat × Nat))(w:World)(e:Ending)(w':World):Prop:=match o with
 | none=>e=.returned (.tuple #[agg #[int i64 (-1),int i64 0,int i64 0],.bool true])∧zc [] w w'
 | some q=>e=.returned (.tuple #[agg #[int i64 (q.1:Int),int i64 (q.2.1:Int),int i64 (q.2.2:Int)],.bool false])∧zc [] w w'
theorem Qz.yes{o:Option (Nat × Nat × Nat)}{w':World}(h:o=none)(k:zc [] w w'):Qz o w (.returned (.tuple #[agg #[int i64 (-1),int i64 0,int i64 0],.bool true])) w':=by subst h;exact ⟨rfl,k⟩
theorem Qz.no{o:Option (Nat × Nat × Nat)}{w':World}(h:o=some (f,b,i))(k:zc [] w w'):Qz o w (.returned (.tuple #[agg #[int i64 (f:Int),int i64 (b:Int),int i64 (i:Int)],.bool false])) w':=by subst h;exact ⟨rfl,k⟩
theorem zhV{g:List (List Nat)}(hg:Ok g){s:Nat→Bool}(h:∀ u,s u=true ↔ ∃ z,z∈Qt g.length [0]∧Pth g (avI (-1)) z u):s=rch g [0]:=by
 funext u
 rw[Bool.eq_iff_iff,h u,zcO hg];have e:avI (-1)=noS:=by
  funext m
  unfold avI noS;simp
 rw[e]
theorem ziw(w:World):zbc (w.alloc (.cells #[int i64 0] 3)) (w.alloc (.cells #[int i64 0] 3)).heap.size (some ⟨w.heap.size,0,none⟩) [0]:=by
 refine .inr ⟨w.heap.size,0,rfl,by simp,fun i hi=> ?_⟩;obtain rfl:i=0:=by simpa using hi
 rw[World.cell?_alloc_at _ _ _ _ rfl];rfl
theorem zmm(h:PrC w pb po P)(hf:f<P.funcs.length):∃ fa fcp fb fo ra rp ba bcp,w.cell? ⟨pb,po+4,none⟩=some (.slice fa P.funcs.length fcp)∧fa=some ⟨fb,fo,none⟩∧w.cell? ⟨fb,fo+f * 3,none⟩=some (int i64 (zf P f).sig)∧w.cell? ⟨fb,fo+f * 3+1,none⟩=some (.slice ra (zf P f).regs.length rp)∧w.cell? ⟨fb,fo+f * 3+2,none⟩=some (.slice ba (zf P f).blocks.length bcp)∧z7 w 5 BlC ba (zf P f).blocks:=by
 obtain ⟨fa,fcp,H⟩:=h.fns;obtain ⟨fb,fo,rfl,hfu0⟩:=H.rows.at (zg (d:=⟨0,[],[]⟩) hf);have hfu:FuC w fb (fo+f * 3) (zf P f):=hfu0;obtain ⟨ra,rp,c1, -⟩:=hfu.c1;obtain ⟨ba,bcp,c2,r2, -⟩:=hfu.c2;exact ⟨_,fcp,fb,fo,ra,rp,ba,bcp,H.cell,rfl,hfu.c0.1,c1,c2,r2⟩
theorem ze3(h:PrC w pb po P)(hE:∀ f,f<P.funcs.length→zf9 (zf P f))(hbk:∀ f,f<P.funcs.length→(zf P f).blocks.length≤600)(hN:P.funcs.length≤1000):
  Calls Tryz.prog 79 #[pointer (some ⟨pb,po,none⟩)] w (Qz ((bks P).find? (jq P)) w):=by
 have ka:=zc.alloc [] w (.cells #[int i64 0,int i64 0,int i64 0] 99);have HN0:=hid (zh w (.cells #[int i64 0,int i64 0,int i64 0] 99));have FIN:=hid fun (W':World) (u0 u1 u2:Value) (k:zc [] (w.alloc (.cells #[int i64 0,int i64 0,int i64 0] 99)) W')=>(ka.quiet k).trans (jc W' w.heap.size u0 u1 u2) (fun x hx hl=>by simp at hx;omega);have HFV:=hid fun (f:Nat) (w':World) (k:zc [] (w.alloc (.cells #[int i64 0,int i64 0,int i64 0] 99)) w') (hf:f<P.funcs.length)=>zmm (PrC.stays _ _ _ _ _ (ka.quiet k) h) hf;have HBL:=hid fun (f:Nat) (w':World) (hf:f<P.funcs.length) (s:Int) (ra:Option Addr) (R rp:Nat) (ba:Option Addr) (bcp:Nat) (hr:z7 w' 5 BlC ba (zf P f).blocks)=>zde (zf P f) s ra R rp ba bcp hr (hE f hf) (hbk f hf);have HRC:Box (∀ (f:Nat) (w':World) (a:Option Addr) (cp:Nat),f<P.funcs.length→GAt w' w'.heap.size a (zy (zf P f))→Calls Tryz.prog 115 #[.slice a (zf P f).blocks.length cp,.slice (some ⟨w'.heap.size,0,none⟩) 1 1,int i64 (-1)] (w'.alloc (.cells #[int i64 0] 3)) fun e w''=>∃ ps,e=.returned (.slice (some ⟨ps,0,none⟩) (zf P f).blocks.length (zf P f).blocks.length)∧qQ w'' (w'.alloc (.cells #[int i64 0] 3)).heap.size ps (zf P f).blocks.length 4 (bw (rch (zy (zf P f)) [0]))∧zc [] w' w''):=hid fun f w' a cp hf hG=>by
  have hk:=zc.alloc [] w' (.cells #[int i64 0] 3);have:=zdR (zy (zf P f)) (jk (hbk f hf)) a cp w'.heap.size _ (hG.quiet hk) (some ⟨w'.heap.size,0,none⟩) 1 _ [0] (ziw w') (by simp) (-1);rw[zO] at this;refine this.mono ?_;rintro e w'' ⟨ps,rfl,s,hrow,k2,hsu⟩;have hs':=zhV (jk (hbk f hf)).ok (s:=s) (by rw[zO];exact hsu);subst hs';exact ⟨ps,rfl,hrow,hk.quiet k2⟩
 obtain ⟨fa0,fcp0,H⟩:=h.fns;have h4:=H.cell;have C4:Box (∀ w',zc [] (w.alloc (.cells #[int i64 0,int i64 0,int i64 0] 99)) w'→w'.cell? ⟨pb,po+4,none⟩=some (.slice fa0 P.funcs.length fcp0)):=hid fun w' k=>za (ka.quiet k) h4;have HBK:=hid hbk;have HKA:=hid ka;clear h H hE hbk h4 ka;obtain ⟨N,hNe⟩:∃ N,P.funcs.length=N:=⟨_,rfl⟩;have HN:=hid hNe;rw[hNe] at HFV HBL HRC C4 hN;clear hNe;go_enter Tryz.func79,Tryz.ntmps79;go_upto_region 1 with fail;generalize hbx:w.heap.size=bx at *;generalize w.alloc (.cells #[int i64 0,int i64 0,int i64 0] 99)=W at *;clear hbx;go_wp2_with fail
 go_loopw [4] (fun i wr=>∃ f:Nat,f≤N∧i=int i64 (f:Int)∧Box (zc [] W wr)∧Box (ZK (jq P) (bkP P f))) (fun i _=>N - (intOf i).toNat)
 case atStart=>exact ⟨0,by omega,rfl,hid (zc.refl _ _),hid (ZK.nil _)⟩
 case round=>
  obtain ⟨f,hf,rfl,HK,HW⟩:=hrel;have c4:=C4.o _ HK.o;by_cases hlt:f<N
  ·have hlt':(f:Int)<(N:Int):=by omega
   obtain ⟨fa,fcp,fb,fo,ra,rp,ba,bcp,d4,rfl,q0,q1,q2,hrows⟩:=HFV.o f wr HK.o hlt;rw[c4] at d4;simp only[Option.some.injEq,Value.slice.injEq,true_and] at d4;obtain ⟨e1,e2⟩:=d4;subst e1;subst e2;have HB1:=hid (HBL.o f wr hlt (zf P f).sig ra (zf P f).regs.length rp ba bcp hrows);have HR1:=hid fun (w':World) (a:Option Addr) (cp:Nat)=>HRC.o f w' a cp hlt;have hb6:=HBK.o f (by rw[HN.o];exact hlt);obtain ⟨n,hn⟩:∃ n,(zf P f).blocks.length=n:=⟨_,rfl⟩;have HNB:=hid hn;rw[hn] at HB1 HR1 q2 hb6;clear hn hrows;generalize (zf P f).regs.length=R at *;generalize (zf P f).sig=sg at *
   go_upto_region 5 with (first
    | (go_at_call 116;refine HB1.o.mono ?_;rintro e w1 ⟨a1,p1,rfl,g1,k1⟩)
    | (go_at_call 115;refine (HR1.o _ a1 p1 g1).mono ?_;rintro e w2 ⟨ps,rfl,hrow,k2⟩))
   have HRO:=hid hrow;have HK2:=hid ((HK.o.quiet k1).quiet k2);clear hrow k1 k2 g1 q0 q1 q2 c4 HB1 HR1 HK;generalize (w1.alloc (.cells #[int i64 0] 3)).heap.size=base at *;go_wp2_with fail
   go_loopw [6] (fun i wr=>∃ b:Nat,b≤n∧i=int i64 (b:Int)∧wr=w2∧Box (ZK (jq P) (bkF f b))) (fun i _=>n - (intOf i).toNat)
   case atStart=>exact ⟨0,by omega,rfl,rfl,hid (ZK.nil _)⟩
   case round=>
    obtain ⟨b,hb,rfl,hwr,HWB⟩:=hrel;subst hwr;by_cases hlb:b<n
    ·have hlb':(b:Int)<(n:Int):=by omega
     have cs:=HRO.o.cell hlb;unfold bw at cs;cases hm:rch (zy (zf P f)) [0] b with
     | true=>
      rw[hm] at cs;have HWN:=hid (ZK.one (B:=jq P) (q:=(f,b,0)) (by show (!rch (zy (zf P f)) [0] b)=false;rw[hm];rfl));clear hm;go_wp2_with fail;go_roundw
      case rel=>exact ⟨b+1,by omega,by go_num,(by first | trivial | rfl),hid (by rw[JC];exact HWB.o.app HWN.o)⟩
      case measure=>simp[intOf];omega
     | false=>
      rw[hm] at cs;have HFD:Box ((bks P).find? (jq P)=some (f,b,0)):=hid (zjw (by rw[HN.o];exact hlt) (by rw[HNB.o];exact hlb) (HW.o.app HWB.o) (by show (!rch (zy (zf P f)) [0] b)=true;rw[hm];rfl));clear hm;have hb6':=ze HN0.o HK2.o;have y0:=zi hb6' 0;have y1:=zi hb6' 1;have y2:=zi hb6' 2;have x0:=zd hb6' 0;have x1:=zd hb6' 1;have x2:=zd hb6' 2;have HB6:=hid hb6';clear hb6';go_wp2_with fail;have h3:=jZ HB6.o (int i64 (f:Int)) (int i64 (b:Int)) (int i64 0);have e0:=zd h3 0;have e1:=zd h3 1;have e2:=zd h3 2;exact bodyPost_ret (v:=.tuple #[agg #[int i64 (f:Int),int i64 (b:Int),int i64 0],.bool false]) (by simp[results,Tryz.results79,go_sem,e0,e1,e2]) rfl (Qz.no HFD.o (FIN.o _ _ _ _ HK2.o))
    ·obtain rfl:b=n:=by omega
     rw[← HNB.o] at HWB;go_wp2_with fail;go_roundw
     case rel=>exact ⟨f+1,by omega,by go_num,HK2,hid (by rw[JB];exact HW.o.app HWB.o)⟩
     case measure=>simp[intOf];omega
  ·obtain rfl:f=N:=by omega
   have HFD:Box ((bks P).find? (jq P)=none):=hid (zdi (by rw[HN.o];exact HW.o));go_wp2_with (go_at_call 75;refine (zV _).mono ?_;rintro e w6 ⟨rfl,k6⟩;have hb6:=ze HN0.o (HK.o.quiet k6);have K6:=hid (HK.o.quiet k6);have y0:=zi hb6 0;have y1:=zi hb6 1;have y2:=zi hb6 2;have x0:=zd hb6 0;have x1:=zd hb6 1;have x2:=zd hb6 2;have HB6:=hid hb6;clear hb6 k6);have h3:=jZ HB6.o (int i64 (-1)) (int i64 0) (int i64 0);have e0:=zd h3 0;have e1:=zd h3 1;have e2:=zd h3 2;exact bodyPost_ret (v:=.tuple #[agg #[int i64 (-1),int i64 0,int i64 0],.bool true]) (by simp[results,Tryz.results79,go_sem,e0,e1,e2]) rfl (Qz.yes HFD.o (FIN.o _ _ _ _ K6.o))
theorem za8{α:Type}{p q:α→Bool}:∀ {l:List α},(∀ x,x∈l→p x=q x)→l.all p=l.all q
 | [],_=>rfl
 | x :: l,h=>by rw[List.all_cons,List.all_cons,h x (List.mem_cons_self ..),za8 fun y hy=>h y (List.mem_cons_of_mem _ hy)]
theorem zep(h:(Qa P).Nodup)(hi:i<P.ims.length):ZI P (im8 P i).1 (im8 P i).2.1=(i:Int):=by
 refine za9 (Z7 hi) (by simp) fun j z hj hz=> ?_;have hl:j<(Qa P).length:=by unfold Qa;rw[List.length_map];omega
 have hl':i<(Qa P).length:=by unfold Qa;rw[List.length_map];omega
 have:=List.pairwise_iff_getElem.1 h j i hl hl' hj;cases hc:(z.1 == (im8 P i).1 && z.2.1 == (im8 P i).2.1) with
 | false=>rfl
 | true=>
  exfalso;apply this;rw[Bool.and_eq_true,beq_iff_eq,beq_iff_eq] at hc;obtain ⟨h1,e1⟩:=List.getElem?_eq_some_iff.1 hz;obtain ⟨h2,e2⟩:=List.getElem?_eq_some_iff.1 (Z7 hi);simp only[Qa,List.getElem_map,e1,e2,hc.1,hc.2]
theorem zev(h:∀ i,i<P.ims.length→ZI P (im8 P i).1 (im8 P i).2.1=(i:Int)):(Qa P).Nodup:=by
 refine List.pairwise_iff_getElem.2 fun i j hi hj hij e=> ?_;have hi':i<P.ims.length:=by unfold Qa at hi;rwa [List.length_map] at hi
 have hj':j<P.ims.length:=by unfold Qa at hj;rwa [List.length_map] at hj
 have h1:=h i hi';have h2:=h j hj';obtain ⟨_,e1⟩:=List.getElem?_eq_some_iff.1 (Z7 hi');obtain ⟨_,e2⟩:=List.getElem?_eq_some_iff.1 (Z7 hj');simp only[Qa,List.getElem_map,e1,e2,Prod.mk.injEq] at e;rw[← e.1, ← e.2,h1] at h2;omega
theorem zh3(hn:zB P=none):Jr P=zaQ P:=by
 have ht:=jU hn;unfold zF at ht;simp only[Bool.and_eq_true,List.all_eq_true] at ht;obtain ⟨-, -,hif,him⟩:=ht;have hsg:=zbf hn;rw[List.all_eq_true] at hsg;have hm:∀ i,i<P.ims.length→zec P (im8 P i)=true:=fun i hi=>him _ (qg P.ims i _ hi);have hnat:∀ {k:Int}{n:Nat},inB k n=true→k.toNat<n:=fun h=>by
  have:=zt.1 h;omega
 have hM:∀ i,i<P.ims.length→(zai P (im8 P i)=(decide ((im8 P i).2.2.length=(if8 P (im8 P i).2.1).length) && (List.range (if8 P (im8 P i).2.1).length).all fun k=>mtB (im8 P i).1 (Jd P (zf P ((im8 P i).2.2.getD k 0).toNat).sig) (Jd P ((if8 P (im8 P i).2.1).getD k 0)))):=fun i hi=>by
  have h1:=hm i hi;unfold zec at h1;simp only[Bool.and_eq_true] at h1;obtain ⟨h1,h2,h3⟩:=h1;unfold zai;rw[h1,h2,Bool.true_and,Bool.true_and];by_cases hl:(im8 P i).2.2.length=(if8 P (im8 P i).2.1).length
  ·rw[hl]
   congr 1
   refine za8 fun k hk=> ?_;have hk:=List.mem_range.1 hk;have a1:inB ((im8 P i).2.2.getD k 0) P.funcs.length=true:=by
    unfold Zp at h3;rw[List.all_eq_true] at h3;exact h3 _ (qg _ _ _ (by omega))
   have a2:=hsg (zf P ((im8 P i).2.2.getD k 0).toNat) (qg _ _ _ (hnat a1));have a3:inB ((if8 P (im8 P i).2.1).getD k 0) P.sigs.length=true:=by
    have:=hif (if8 P (im8 P i).2.1) (qg _ _ _ (hnat h2));unfold Zp at this;rw[List.all_eq_true] at this;exact this _ (qg _ _ _ hk)
   unfold isM;rw[a1,a2,a3,Bool.true_and,Bool.true_and,Bool.true_and]
  ·simp[hl]
 have hall:P.ims.all (zai P)=(List.range P.ims.length).all fun i=>zai P (im8 P i):=by
  refine Bool.eq_iff_iff.2 ⟨fun h=> ?_,fun h=> ?_⟩
  ·rw[List.all_eq_true] at h ⊢
   exact fun i hi=>h _ (qg _ _ _ (List.mem_range.1 hi))
  ·rw[List.all_eq_true] at h ⊢
   intro x hx;obtain ⟨i,hi,e⟩:=List.getElem_of_mem hx;have:=h i (List.mem_range.2 hi);have e2:im8 P i=x:=by
    have:=Z7 hi;rw[List.getElem?_eq_getElem hi,e] at this;exact (Option.some.inj this).symm
   rwa [e2] at this
 unfold zaQ;rw[hall];refine Bool.eq_iff_iff.2 ⟨fun h=> ?_,fun h=> ?_⟩
 ·unfold Jr at h
  rw[List.all_eq_true] at h;have hx:∀ i,i<P.ims.length→zhx P i (im8 P i)=true:=fun i hi=>h i (List.mem_range.2 hi);rw[Bool.and_eq_true,decide_eq_true_eq,List.all_eq_true];refine ⟨zev fun i hi=> ?_,fun i hi=> ?_⟩
  ·have:=hx i hi
   unfold zhx at this;simp only[Bool.and_eq_true,decide_eq_true_eq] at this;exact this.2.1
  ·have hi:=List.mem_range.1 hi
   have:=hx i hi;unfold zhx at this;rw[hM i hi];rw[Bool.and_eq_true,Bool.and_eq_true] at this;rw[Bool.and_eq_true];exact ⟨this.1,this.2.2⟩
 ·rw[Bool.and_eq_true,decide_eq_true_eq,List.all_eq_true] at h
  unfold Jr;rw[List.all_eq_true];intro i hi;have h2:=h.2 i hi;have hi:=List.mem_range.1 hi;rw[hM i hi,Bool.and_eq_true] at h2;unfold zhx;rw[Bool.and_eq_true,Bool.and_eq_true];exact ⟨h2.1,by rw[decide_eq_true_eq];exact zep h.1 hi,h2.2⟩
def Zv(P:Pr8)(f:Fu8)(x:In8):Bool:=zW P f x && (rtB P f x && jr P f x)
def wfO(P:Pr8):Option (Int × Int × Int × Int):=
 if qJ P=false then some (2, -1,0,0) else
 match zB P with
 | some q=>some (3,q)
 | none=>if zaQ P=false then some (7, -1,0,0) else
  match ZW P (Zv P) with
  | some q=>some (4,q)
  | none=>match (bks P).find? (jq P) with
   | some q=>some (6,ptI q)
   | none=>match (pts P).find? (za0 P) with
    | some q=>some (5,ptI q)
    | none=>none
theorem zcq{p:Pr8}{n:Nat}(h:n<(pts p).length):∃ f b i,Zh p f b i∧(pts p)[n]? = some (f,b,i):=by
 have hm:(pts p)[n]∈pts p:=List.getElem_mem h;obtain ⟨f,b,i,e⟩:∃ f b i,(pts p)[n]=(f,b,i):=⟨(pts p)[n].1,(pts p)[n].2.1,(pts p)[n].2.2,rfl⟩;rw[e] at hm;exact ⟨f,b,i,jQ.1 hm,by rw[List.getElem?_eq_getElem h,e]⟩
theorem zfK{B:Nat × Nat × Nat→Bool}{l:List (Nat × Nat × Nat)}{n:Nat}{q:Nat × Nat × Nat}(hq:l[n]? = some q)(hw:ZK B (l.take n))(hb:B q=true):l.find? B=some q:=by
 have hn:=(List.getElem?_eq_some_iff.1 hq).1;have e:l=l.take n ++ q :: l.drop (n+1):=by
  have h1:=List.drop_eq_getElem_cons hn;have h2:=(List.getElem?_eq_some_iff.1 hq).2;rw[← h2, ← h1,List.take_append_drop]
 rw[e,List.find?_append,List.find?_eq_none.2 (fun x hx=>by simp[hw x hx]),List.find?_cons_of_pos hb];rfl
theorem zdb(h:PrC w pb po P)(hs:Sm8 P)(hfew:zjI P)(hnm:zB P=none)(hrg:∀ f,f<P.funcs.length→(zf P f).regs.length≤1000):
  Calls Tryz.prog 80 #[pointer (some ⟨pb,po,none⟩)] w (Qz ((pts P).find? (zbD P)) w):=by
 have ka:=zc.alloc [] w (.cells #[int i64 0,int i64 0,int i64 0] 99);have HN0:=hid (zh w (.cells #[int i64 0,int i64 0,int i64 0] 99));have FIN:=hid fun (W':World) (u0 u1 u2:Value) (k:zc [] (w.alloc (.cells #[int i64 0,int i64 0,int i64 0] 99)) W')=>(ka.quiet k).trans (jc W' w.heap.size u0 u1 u2) (fun x hx hl=>by simp at hx;omega);have HPO:=hid (Z1 (PrC.stays _ _ _ _ _ ka h) hs);have HRD:Box (∀ (w':World) (f b i:Nat),zc [] (w.alloc (.cells #[int i64 0,int i64 0,int i64 0] 99)) w'→Zh P f b i→Calls Tryz.prog 117 #[pointer (some ⟨pb,po,none⟩),ptV f b i] w' fun e w''=>∃ a cp,e=.returned (.slice a (qI P (f,b,i)).length cp)∧zw w'' a (qI P (f,b,i))∧zc [] w' w''):=hid fun w' f b i k hp=>zeJ (PrC.stays _ _ _ _ _ (ka.quiet k) h) hs hfew hp;have HFR:Box (∀ (w':World) (f b i:Nat) (z:Int),zc [] (w.alloc (.cells #[int i64 0,int i64 0,int i64 0] 99)) w'→Zh P f b i→z∈qI P (f,b,i)→Calls Tryz.prog 118 #[pointer (some ⟨pb,po,none⟩),int i64 (f:Int),int i64 z,ptV f b i] w' fun e w''=>e=.returned (.bool (Zo P f z.toNat b i))∧zc [] w' w''):=hid fun w' f b i z k hp hz=>by
  have h1:=zt.1 (JJ hnm hp z hz);have h2:=hrg f hp.1;obtain ⟨r,rfl⟩:=Int.eq_ofNat_of_zero_le h1.1;have hsg:inB (zf P f).sig P.sigs.length=true:=by
   have:=Zq hnm hp.1;unfold je at this;rw[Bool.and_eq_true] at this;exact this.1
  exact zha (PrC.stays _ _ _ _ _ (ka.quiet k) h) hs hp hsg (by omega)
 have HRLN:Box (∀ (f b i:Nat),Zh P f b i→(qI P (f,b,i)).length≤2000000):=hid fun f b i hp=>by
  unfold qI;split
  ·next hi=>
   have:=hfew f b i hp.1 hp.2.1 hi;have h2:=Zm (zT (zr (zf P f) b) i);simp only at h2 ⊢;omega
  ·split <;> simp
 have HBK:=hid fun (n:Nat) (hn:n<(pts P).length)=>zcq hn;have hpl:=hs.pt;unfold ptV at HRD HFR;have HKA:=hid ka;clear h hs hfew hnm hrg ka;obtain ⟨N,hNe⟩:∃ N,(pts P).length=N:=⟨_,rfl⟩;have HN:=hid hNe;rw[hNe] at HPO HBK hpl;clear hNe;go_enter Tryz.func80,Tryz.ntmps80;go_upto_region 1 with fail;generalize hbx:w.heap.size=bx at *;generalize w.alloc (.cells #[int i64 0,int i64 0,int i64 0] 99)=W at *;clear hbx;go_upto_region 2 with (go_at_call 51;refine HPO.o.mono ?_;rintro e w1 ⟨la,lcp,rfl,hrows,k1⟩)
 have HRO:=hid hrows;have HK1:=hid k1;clear hrows k1 HPO;go_wp2_with fail
 go_loopw [5] (fun i wr=>∃ n:Nat,n≤N∧i=int i64 (n:Int)∧Box (zc [] w1 wr)∧Box (ZK (zbD P) ((pts P).take n))) (fun i _=>N - (intOf i).toNat)
 case atStart=>exact ⟨0,by omega,rfl,hid (zc.refl _ _),hid (by rw[List.take_zero];exact ZK.nil _)⟩
 case round=>
  obtain ⟨n,hn,rfl,HK,HW⟩:=hrel;by_cases hlt:n<N
  ·have hlt':(n:Int)<(N:Int):=by omega
   obtain ⟨f,b,i,hp,hq⟩:=HBK.o n hlt;obtain ⟨lb,lo,rfl,hpc⟩:=HRO.o.at hq;have CP:Box (∀ w',zc [] w1 w'→w'.cell? ⟨lb,lo+n * 3,none⟩=some (int i64 (f:Int))∧w'.cell? ⟨lb,lo+n * 3+1,none⟩=some (int i64 (b:Int))∧w'.cell? ⟨lb,lo+n * 3+2,none⟩=some (int i64 (i:Int))):=hid fun w' k=>⟨za k hpc.c0,za k hpc.c1,za k hpc.c2⟩
   have HTK:Box ((pts P).take (n+1)=(pts P).take n ++ [(f,b,i)]):=hid (by
    have:=qe (pts P) n (0,0,0) (by rw[HN.o];exact hlt);rw[List.getD_eq_getElem?_getD,hq] at this
    exact this)
   have HQ:=hid hq;have HRD1:=hid (HRD.o wr f b i (HK1.o.quiet HK.o) hp);have HFR1:=hid fun (w':World) (z:Int) (k:zc [] W w') (hz:z∈qI P (f,b,i))=>HFR.o w' f b i z k hp hz;have hll:=HRLN.o f b i hp;have HBP:Box (zbD P (f,b,i)=(qI P (f,b,i)).any fun z=>Zo P f z.toNat b i):=hid rfl;clear hq hpc hp;generalize qI P (f,b,i)=RL at *;obtain ⟨c0,c1,c2⟩:=CP.o _ HK.o;go_upto_region 6 with (go_at_call 117;refine HRD1.o.mono ?_;rintro e w2 ⟨ua,ucp,rfl,hz2,k2⟩)
   have HZ:=hid hz2;have HK2:=hid (HK.o.quiet k2);clear hz2 k2 c0 c1 c2 HRD1 HK;obtain ⟨ul,hul⟩:∃ ul,RL.length=ul:=⟨_,rfl⟩;have HUL:=hid hul;rw[hul] at hll ⊢;clear hul;go_wp2_with fail
   go_loopw [7] (fun i' wr=>∃ k:Nat,k≤ul∧i'=int i64 (k:Int)∧Box (zc [] w2 wr)∧Box (((RL.take k).any fun z=>Zo P f z.toNat b i)=false)) (fun i' _=>ul - (intOf i').toNat)
   case atStart=>exact ⟨0,by omega,rfl,hid (zc.refl _ _),hid (by simp)⟩
   case round=>
    obtain ⟨k,hk,rfl,HK,HA⟩:=hrel;by_cases hlk:k<ul
    ·have hlk':(k:Int)<(ul:Int):=by omega
     have hlk2:k<RL.length:=by rw[HUL.o];exact hlk
     rcases HZ.o with h0 | ⟨bz,oz,rfl,hcz⟩
     ·exfalso
      rw[h0] at hlk2;simp at hlk2
     have hc:=za HK.o (hcz k hlk2);have HTS:=hid (qe RL k 0 hlk2);have HMZ:=hid (qg RL k 0 hlk2);obtain ⟨z,hz⟩:∃ z,RL.getD k 0=z:=⟨_,rfl⟩;rw[hz] at hc HTS HMZ;clear hz hlk2 hcz;obtain ⟨c0,c1,c2⟩:=CP.o _ (HK2.o.quiet HK.o);have HFZ:=hid fun (w':World) (k':zc [] wr w')=>HFR1.o w' z ((HK1.o.quiet HK2.o).quiet (HK.o.quiet k')) HMZ.o;go_upto_region 9 with fail
     go_cut [42] (fun t42 wz=>t42=.bool (Zo P f z.toNat b i)∧Box (zc [] wr wz))
     case first=>
      go_region_with (go_at_call 118;refine (HFZ.o _ (zc.drewN [] _ _)).mono ?_;rintro e w5 ⟨rfl,k5⟩)
      all_goals
       go_wp2_with fail;go_meet;exact ⟨rfl,hid ((zc.drewN [] _ _).quiet k5)⟩
     case rest=>
      obtain ⟨rfl,HK5⟩:=hcut;clear c0 c1 c2 hc;cases hfz:Zo P f z.toNat b i with
      | false=>
       have HA2:Box (((RL.take (k+1)).any fun z=>Zo P f z.toNat b i)=false):=hid (by rw[HTS.o,List.any_append,HA.o];simp[hfz]);clear hfz;go_wp2_with fail;go_roundw
       case rel=>exact ⟨k+1,by omega,by go_num,hid (HK.o.quiet HK5.o),HA2⟩
       case measure=>simp[intOf];omega
      | true=>
       have HFD:Box ((pts P).find? (zbD P)=some (f,b,i)):=hid (zfK HQ.o HW.o (by
        rw[HBP.o,List.any_eq_true]
        exact ⟨z,HMZ.o,hfz⟩))
       clear hfz;have KZ:=hid (HK1.o.quiet (HK2.o.quiet (HK.o.quiet HK5.o)));obtain ⟨c0,c1,c2⟩:=CP.o _ (HK2.o.quiet (HK.o.quiet HK5.o));have hb6':=ze HN0.o KZ.o;have y0:=zi hb6' 0;have y1:=zi hb6' 1;have y2:=zi hb6' 2;have x0:=zd hb6' 0;have x1:=zd hb6' 1;have x2:=zd hb6' 2;have HB6:=hid hb6';clear hb6';go_wp2_with fail;have h3:=jZ HB6.o (int i64 (f:Int)) (int i64 (b:Int)) (int i64 (i:Int));have e0:=zd h3 0;have e1:=zd h3 1;have e2:=zd h3 2;exact bodyPost_ret (v:=.tuple #[agg #[int i64 (f:Int),int i64 (b:Int),int i64 (i:Int)],.bool false]) (by simp[results,Tryz.results80,go_sem,e0,e1,e2]) rfl (Qz.no HFD.o (FIN.o _ _ _ _ KZ.o))
    ·obtain rfl:k=ul:=by omega
     rw[← HUL.o,List.take_length] at HA;have HWN:=hid (ZK.one (B:=zbD P) (q:=(f,b,i)) (by rw[HBP.o];exact HA.o));go_wp2_with fail;go_roundw
     case rel=>exact ⟨n+1,by omega,by go_num,hid (HK2.o.quiet HK.o),hid (by rw[HTK.o];exact HW.o.app HWN.o)⟩
     case measure=>simp[intOf];omega
  ·obtain rfl:n=N:=by omega
   have HFD:Box ((pts P).find? (zbD P)=none):=hid (ZN (by have:=HW.o;rw[← HN.o,List.take_length] at this;exact this));go_wp2_with (go_at_call 75;refine (zV _).mono ?_;rintro e w6 ⟨rfl,k6⟩;have hb6:=ze HN0.o (HK1.o.quiet (HK.o.quiet k6));have K6:=hid (HK1.o.quiet (HK.o.quiet k6));have y0:=zi hb6 0;have y1:=zi hb6 1;have y2:=zi hb6 2;have x0:=zd hb6 0;have x1:=zd hb6 1;have x2:=zd hb6 2;have HB6:=hid hb6;clear hb6 k6);have h3:=jZ HB6.o (int i64 (-1)) (int i64 0) (int i64 0);have e0:=zd h3 0;have e1:=zd h3 1;have e2:=zd h3 2;exact bodyPost_ret (v:=.tuple #[agg #[int i64 (-1),int i64 0,int i64 0],.bool true]) (by simp[results,Tryz.results80,go_sem,e0,e1,e2]) rfl (Qz.yes HFD.o (FIN.o _ _ _ _ K6.o))
theorem zhq(h:PrC w pb po P)(hz:SzP P):
  Calls Tryz.prog 85 #[pointer (some ⟨pb,po,none⟩)] w (Zs ((bks P).find? (jq P)) 6 w):=by
 have HFL:Box (∀ (w':World) (f:Nat),zc [] w w'→f<P.funcs.length→Calls Tryz.prog 131 #[pointer (some ⟨pb,po,none⟩),int i64 (f:Int)] w' fun e w''=>∃ a,e=.returned (agg #[int i64 ((zy (zf P f)).length:Int),.slice a (zy (zf P f)).length (zy (zf P f)).length])∧GAt w'' w''.heap.size a (zy (zf P f))∧zc [] w' w''):=hid fun w' f k hf=>zby (PrC.stays _ _ _ _ _ k h) hf (hz.bk f hf);have HRE:Box (∀ (w':World) (f:Nat) (a:Option Addr) (B:Nat),f<P.funcs.length→GAt w' B a (zy (zf P f))→B≤w'.heap.size→Calls Tryz.prog 133 #[agg #[int i64 ((zy (zf P f)).length:Int),.slice a (zy (zf P f)).length (zy (zf P f)).length]] w' fun e w''=>∃ b,e=.returned (pointer (some ⟨b,0,none⟩))∧zJ w'' b (rch (zy (zf P f)) [0])∧zc [] w' w''∧w'.heap.size≤b):=hid fun w' f a B hf hG hB=>Q7 (zy (zf P f)) (jk (hz.bk f hf)) a _ B w' hG hB;have HMY:Box (∀ (w':World) (f:Nat) (a:Option Addr) (B:Nat),f<P.funcs.length→GAt w' B a (zy (zf P f))→Calls Tryz.prog 132 #[agg #[int i64 ((zy (zf P f)).length:Int),.slice a (zy (zf P f)).length (zy (zf P f)).length]] w' fun e w''=>e=.returned (.bool true)∧zc [] w' w''):=hid fun w' f a B hf hG=>zbv (zy (zf P f)) (jk (hz.bk f hf)) a _ B w' hG;have HRF:Box (∀ f,f<P.funcs.length→Fit (rch (zy (zf P f)) [0])):=hid fun f hf=>JE (jk (hz.bk f hf)) [0] zM QV;obtain ⟨fa,fcp,H⟩:=h.fns;have h4:=H.cell;have HZ:=hid hz;have hN:=hz.fn;clear h H hz;obtain ⟨N,hNe⟩:∃ N,P.funcs.length=N:=⟨_,rfl⟩;have HN:=hid hNe;rw[hNe] at HFL HRE HMY HRF h4 hN;clear hNe;go_enter Tryz.func85,Tryz.ntmps85;go_wp2_with fail;clear h4
 go_loopw [14] (fun i wr=>∃ f:Nat,f≤N∧i=int i64 (f:Int)∧Box (zc [] w wr)∧Box (ZK (jq P) (bkP P f))) (fun i _=>N - (intOf i).toNat)
 case atStart=>exact ⟨0,by omega,rfl,hid (zc.refl _ _),hid (ZK.nil _)⟩
 case round=>
  obtain ⟨f,hf,rfl,HK,HW⟩:=hrel;by_cases hlt:f<N
  ·have hlt':(f:Int)<(N:Int):=by omega
   have HF1:=hid fun (w':World) (k:zc [] w w')=>HFL.o w' f k hlt;have HR1:=hid fun (w':World) (a:Option Addr) (B:Nat)=>HRE.o w' f a B hlt;have HM1:=hid fun (w':World) (a:Option Addr) (B:Nat)=>HMY.o w' f a B hlt;have HHF:=hid (HRF.o f hlt);obtain ⟨n,hn⟩:∃ n,(zy (zf P f)).length=n:=⟨_,rfl⟩;have HBL:Box ((zf P f).blocks.length=n):=hid (by rw[← zO];exact hn);rw[hn] at HF1 HR1 HM1;clear hn;have hn6:n≤600:=by rw[← HBL.o];exact HZ.o.bk f (by rw[HN.o];exact hlt)
   go_upto_region 7 with (go_at_call 131;refine (HF1.o _ HK.o).mono ?_;rintro e w1 ⟨a,rfl,hg1,k1⟩)
   have ka:=zc.alloc [] w1 (.cells #[int i64 (n:Int),.slice a n n] 195);have HBX:=hid (jg.new w1 (int i64 (n:Int)) (.slice a n n));have HGR:Box (GAt (w1.alloc (.cells #[int i64 (n:Int),.slice a n n] 195)) w1.heap.size a (zy (zf P f))):=hid (hg1.quiet ka);have HK1:=hid ((HK.o.quiet k1).quiet ka);clear ka hg1 k1 HK;generalize w1.alloc (.cells #[int i64 (n:Int),.slice a n n] 195)=W1 at *;generalize w1.heap.size=gb at *;have c0:=HBX.o.c0;have c1:=HBX.o.c1;go_upto_region 8 with (go_at_call 132;refine (HM1.o _ a gb HGR.o).mono ?_;rintro e w2 ⟨rfl,k2⟩)
   have HBX2:=hid (HBX.o.kept k2 (by simp));have HK2:=hid (HK1.o.quiet k2);have HGR2:=hid (HGR.o.quiet k2);have hgb:gb≤w2.heap.size:=Nat.le_of_lt HBX2.o.lt;clear c0 c1 HBX HGR HK1 k2;have c0:=HBX2.o.c0;have c1:=HBX2.o.c1;go_upto_region 9 with (go_at_call 133;refine (HR1.o _ a gb HGR2.o hgb).mono ?_;rintro e w3 ⟨b3,rfl,h3,k3,n3⟩)
   have HBX3:=hid (HBX2.o.kept k3 (by simp));have HK3:=hid (HK2.o.quiet k3);have H3:=hid h3;clear c0 c1 HBX2 HK2 HGR2 h3 k3 n3 hgb;have c0:=HBX3.o.c0;go_wp2_with fail;clear c0
   go_loopw [27] (fun i wr=>∃ b:Nat,b≤n∧i=int i64 (b:Int)∧Box (zc [] w wr)∧Box (zJ wr b3 (rch (zy (zf P f)) [0]))∧Box (ZK (jq P) (bkF f b))) (fun i _=>n - (intOf i).toNat)
   case atStart=>exact ⟨0,by omega,rfl,HK3,H3,hid (ZK.nil _)⟩
   case round=>
    clear HK3 H3;obtain ⟨b,hb,rfl,HK,H3,HWB⟩:=hrel;by_cases hlb:b<n
    ·have hlb':(b:Int)<(n:Int):=by omega
     have HHS:Box (Calls Tryz.prog 134 #[pointer (some ⟨b3,0,none⟩),int i64 (b:Int)] wr fun e w''=>e=.returned (.bool (rch (zy (zf P f)) [0] b))∧∃ m,w''=wr.drewN m):=hid (by
      have:=Q3 b3 (rch (zy (zf P f)) [0]) (b:Int) wr H3.o HHF.o;unfold ZL at this;rw[Int.toNat_natCast,decide_eq_true (by omega:(0:Int)≤(b:Int)),Bool.true_and] at this
      exact this)
     cases hm:rch (zy (zf P f)) [0] b with
     | true=>
      rw[hm] at HHS;have HWN:=hid (ZK.one (B:=jq P) (q:=(f,b,0)) (by show (!rch (zy (zf P f)) [0] b)=false;rw[hm];rfl));clear hm;go_wp2_with (go_at_call 134;refine HHS.o.mono ?_;rintro e w5 ⟨rfl,m5,rfl⟩);have kd:=zc.drewN [] wr m5;go_roundw
      case rel=>exact ⟨b+1,by omega,by go_num,hid (HK.o.quiet kd),hid (H3.o.kept kd (by simp)),hid (by rw[JC];exact HWB.o.app HWN.o)⟩
      case measure=>simp[intOf];omega
     | false=>
      rw[hm] at HHS;have HFD:Box ((bks P).find? (jq P)=some (f,b,0)):=hid (zjw (by rw[HN.o];exact hlt) (by rw[HBL.o];exact hlb) (HW.o.app HWB.o) (by show (!rch (zy (zf P f)) [0] b)=true;rw[hm];rfl));clear hm;go_wp2_with (first | (go_at_call 134;refine HHS.o.mono ?_;rintro e w5 ⟨rfl,m5,rfl⟩) | (go_at_call 135;refine (zd8 _ _ _ _ _).mono ?_;rintro e w8 ⟨p8,rfl,h8,k8⟩));go_ret;unfold Zs;rw[HFD.o];exact ⟨p8,rfl,h8,(HK.o.quiet (zc.drewN [] _ _)).quiet k8⟩
    ·obtain rfl:b=n:=by omega
     rw[← HBL.o] at HWB;go_wp2_with fail;go_roundw
     case rel=>exact ⟨f+1,by omega,by go_num,HK,hid (by rw[JB];exact HW.o.app HWB.o)⟩
     case measure=>simp[intOf];omega
  ·obtain rfl:f=N:=by omega
   have HFD:Box ((bks P).find? (jq P)=none):=hid (zdi (by rw[HN.o];exact HW.o));go_wp2;go_ret;unfold Zs;rw[HFD.o];exact ⟨rfl,HK.o⟩
theorem zda(h:wfO P=none):qJ P=true:=by
 unfold wfO at h;by_cases hb:qJ P=false
 ·rw[if_pos hb] at h
  cases h
 ·exact Bool.not_eq_false _ ▸ hb
theorem zfO(h:wfO P=none):zB P=none:=by
 have hb:=zda h;unfold wfO at h;rw[if_neg (by rw[hb];decide)] at h;cases hn:zB P with
 | none=>rfl
 | some q=>rw[hn] at h;cases h
theorem Qd{α:Type}{l:List α}{m:Nat}{g:α→Bool}(h:qF l m g=true){y:α}(hy:y∈l):g y=true:=by
 obtain ⟨k,hk⟩:=List.getElem?_of_mem hy;exact Za h hk
structure zjp (P:Pr8):Prop where
 h1:P.recs.length≤1000
 h2:P.ims.length≤1000
 h3:P.funcs.length≤1000
 r1:∀ r,r∈P.recs→r.length≤1000
 r2:∀ x,x∈P.ims→x.2.2.length≤1000
 r3:∀ f,f∈P.funcs→f.regs.length≤1000∧f.blocks.length≤1000∧∀ y,y∈f.blocks→y.code.length≤1000∧∀ x,x∈y.code→x.args.length≤1000
theorem zgc(h:qJ P=true):zjp P:=by
 have hf:=ZE h;unfold qJ zen at h;simp only[Bool.and_eq_true] at h;have hr:=h.1.2.1;have hi:=h.1.2.2.2.2.1;refine ⟨Nat.le_trans (jD hr) (by decide),Nat.le_trans (jD hi) (by decide),Nat.le_trans (jD hf) (by decide),fun r hm=> ?_,fun x hm=> ?_,fun f hm=> ?_⟩
 ·have:=Qd hr hm
  unfold zc7 at this;have:=of_decide_eq_true this;omega
 ·have:=Qd hi hm
  unfold imB at this;have:=of_decide_eq_true this;omega
 ·have h1:=Qd hf hm
  unfold fnB at h1;simp only[Bool.and_eq_true] at h1;have h2:=of_decide_eq_true h1.1;refine ⟨by omega,Nat.le_trans (jD h1.2.2) (by decide),fun y hy=> ?_⟩;have h3:zbZ y=true:=Qd h1.2.2 hy;refine ⟨Nat.le_trans (jD h3) (by decide),fun x hx=> ?_⟩;have h4:zdC x=true:=Qd h3 hx;unfold zdC at h4;have:=of_decide_eq_true h4;omega
structure Wff (P:Pr8):Prop where
 bnd:qJ P=true
 names:zB P=none
 met:zaQ P=true
 chk:ZW P (Zv P)=none
theorem zfy(h:wfO P=none):Wff P:=by
 have h1:=zda h;have h2:=zfO h;unfold wfO at h;rw[if_neg (by rw[h1];decide),h2] at h;simp only at h;by_cases hm:zaQ P=false
 ·rw[if_pos hm] at h
  cases h
 ·rw[if_neg hm] at h
  refine ⟨h1,h2,by simpa using hm,?_⟩;cases hc:ZW P (Zv P) with
  | none=>rfl
  | some q=>rw[hc] at h;cases h
theorem Wff.short(h:Wff P):zjp P:=zgc h.bnd
theorem Wff.fnB(h:Wff P)(hf:f<P.funcs.length):fnB (zf P f)=true:=Qd (ZE h.bnd) (List.mem_of_getElem? (zkW ⟨0,[],[]⟩ hf))
theorem Wff.regs(h:Wff P)(hf:f<P.funcs.length):(zf P f).regs.length≤16:=by
 have:=h.fnB hf;unfold Go.Proofs.YthflgjkmbakedaaGreatDoor.fnB at this;simp only[Bool.and_eq_true,decide_eq_true_eq] at this;exact this.1
theorem Wff.pt(h:Wff P)(hp:Zh P f b i):zcs P (f,b,i)=true:=by
 have hn:=h.names;unfold zB at hn;rw[if_pos (jU h.names)] at hn;cases hf:(List.range P.funcs.length).findSome? (J5 P) with
 | some q=>rw[hf] at hn;cases hn
 | none=>
  have h1:=List.findSome?_eq_none_iff.1 hf f (List.mem_range.2 hp.1);unfold J5 at h1;rw[if_pos (Zq h.names hp.1)] at h1;have h2:(ptF (zf P f) f (zf P f).blocks.length).find? (fun q=> !zcs P q)=none:=by
   cases hq:(ptF (zf P f) f (zf P f).blocks.length).find? (fun q=> !zcs P q) with
   | none=>rfl
   | some q=>rw[hq] at h1;cases h1
  have h3:=List.find?_eq_none.1 h2 (f,b,i) (by
   unfold ptF ptB;rw[List.mem_flatMap];refine ⟨b,List.mem_range.2 hp.2.1,?_⟩;rw[List.mem_map]
   exact ⟨i,List.mem_range.2 (by have:=hp.2.2;omega),rfl⟩)
  simpa using h3
theorem Wff.ins(h:Wff P)(hp:Zh P f b i)(hi:i<(zr (zf P f) b).code.length):zW P (zf P f) (zT (zr (zf P f) b) i)=true:=by
 have:=h.pt hp;unfold zcs at this
 rwa [if_pos hi] at this
theorem Wff.chk1(h:Wff P):(∀ f,f<P.funcs.length→Q9 P (zf P f)=true)∧(∀ q,q∈pts P→ptT P (Zv P) q=true)∧ZD P=true:=by
 have hc:=h.chk;unfold ZW at hc;by_cases ha:(List.range P.funcs.length).all (fun f=>Q9 P (zf P f))=true
 ·rw[if_pos ha] at hc
  cases hq:(pts P).find? (fun q=> !ptT P (Zv P) q) with
  | some q=>rw[hq] at hc;cases hc
  | none=>
   rw[hq] at hc;refine ⟨fun f hf=>List.all_eq_true.1 ha f (List.mem_range.2 hf),fun q hm=> ?_,?_⟩
   ·have:=List.find?_eq_none.1 hq q hm
    simpa using this
   ·cases hm:ZD P with
    | true=>rfl
    | false=>rw[hm] at hc;cases hc
 ·rw[if_neg ha] at hc
  cases hc
theorem Wff.fit(h:Wff P)(hp:Zh P f b i)(hi:i<(zr (zf P f) b).code.length):jr P (zf P f) (zT (zr (zf P f) b) i)=true:=by
 have:=h.chk1.2.1 _ (jQ.2 hp);unfold ptT at this;rw[if_pos hi] at this;unfold Zv at this;rw[Bool.and_eq_true,Bool.and_eq_true] at this;exact this.2.2
structure InT (P:Pr8) (F:Fu8) (x:In8):Prop where
 op:1≤x.op∧x.op≤15
 dst:zD x=true→inB x.dst F.regs.length=true
 dst0:zD x=false→x.dst=0
 use:∀ r,r∈zN x→inB r F.regs.length=true
 a0:qO x.op=false→x.a=0
 b0:qP x.op=false→x.b=0
 num:qN P F x=true
theorem znw{x:In8}(h:zW P F x=true):InT P F x:=by
 unfold zW zp j8 at h;simp only[Bool.and_eq_true,Bool.or_eq_true,decide_eq_true_eq,Bool.not_eq_true'] at h;obtain ⟨⟨h1,h2,h3,h4,h5,h6⟩,⟨h7,h8⟩,h9⟩:=h;refine ⟨h1,fun e=> ?_,fun e=> ?_,fun r hr=> ?_,fun e=> ?_,fun e=> ?_,h9⟩
 ·rcases h7 with h7 | h7
  ·rw[e] at h7;cases h7
  ·exact h7
 ·rcases h2 with h2 | h2
  ·exfalso
   unfold qA at h2;unfold zD at e;rw[e] at h2;cases h2
  ·exact h2
 ·unfold Zp at h8
  exact List.all_eq_true.1 h8 r hr
 ·rcases h3 with h3 | h3
  ·rw[e] at h3;cases h3
  ·exact h3
 ·rcases h4 with h4 | h4
  ·rw[e] at h4;cases h4
  ·exact h4
theorem ziu{r:Int}(h:inB r F.regs.length=true):zq F r=F.regs.getD r.toNat (0,0):=if_pos h
theorem Wff.rt(h:Wff P)(hp:Zh P f b i)(hi:i<(zr (zf P f) b).code.length):rtB P (zf P f) (zT (zr (zf P f) b) i)=true:=by
 have:=h.chk1.2.1 _ (jQ.2 hp);unfold ptT at this;rw[if_pos hi] at this;unfold Zv at this;rw[Bool.and_eq_true,Bool.and_eq_true] at this;exact this.2.1
theorem zor{x:In8}(fit:jr P F x=true)(rt:rtB P F x=true)(h5:x.op=5):(zq F x.dst).1=1∧inB (zq F x.dst).2 P.recs.length=true:=by
 unfold jr at fit;rw[if_neg (by omega),if_neg (by omega),if_neg (by omega),if_neg (by omega),if_pos h5] at fit;have f1:(zq F x.dst).1=1:=by simpa using fit
 unfold rtB at rt;rw[Bool.and_eq_true,Bool.or_eq_true] at rt;rcases rt.1 with r | r
 ·exfalso
  have:zD x=true:=by unfold zD;simp only[decide_eq_true_eq];omega
  rw[this] at r;cases r
 ·unfold tyB at r
  rw[if_neg (by omega),if_pos f1] at r;exact ⟨f1,r⟩
end Go.Proofs.YthflgjkmbakedaaGreatDoor
