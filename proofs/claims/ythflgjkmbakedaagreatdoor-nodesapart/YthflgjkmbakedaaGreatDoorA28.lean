import Derived.Test.YthflgjkmbakedaaGreatDoorA22
import Derived.Test.YthflgjkmbakedaaGreatDoorA23
import Derived.Test.YthflgjkmbakedaaGreatDoorA27

namespace Go.Proofs.YthflgjkmbakedaaGreatDoor
open Go.RowKit
open Go.Value (int pointer agg)
open Go.IntKind (i64)
set_option maxRecDepth 20000
set_option maxHeartbeats 8000000
variable {P:Pr8}{b f i pb po r:Nat}{w:World}
theorem zje(P:Pr8)(f b i:Nat):(Jb P f b i).length≤2:=by
 unfold Jb;split
 ·simp
 ·unfold QI
  rw[List.length_map];refine Nat.le_trans (List.length_filter_le _ _) ?_;unfold zbl
  repeat' split
  all_goals simp
theorem zh8(h:PrC w pb po P)(hs:Sm8 P)(hp:Zh P f b i)(hsg:inB (zf P f).sig P.sigs.length=true)(hr:r<5000)
  (hnx:∀ (w':World) (b i:Nat),PrC w' pb po P→Zh P f b i→Calls Tryz.prog 177 #[pointer (some ⟨pb,po,none⟩),ptV f b i] w' (zcp w' P f b i)):
  Calls Tryz.prog 118 #[pointer (some ⟨pb,po,none⟩),int i64 (f:Int),int i64 (r:Int),ptV f b i] w fun e w'=>e=.returned (.bool (Zo P f r b i))∧zc [] w w':=by
 have hf:=hp.1;have hb6:(zf P f).blocks.length≤600:=Nat.le_trans (hs.bk f hf) (by decide);have hb0:0<(zf P f).blocks.length:=by have:=hp.2.1;omega
 obtain ⟨sa,sp,c1,r1,_⟩:=h.c1;obtain ⟨fa,fcp,H⟩:=h.fns;have h4:=H.cell;obtain ⟨fb,fo,rfl,hfu0⟩:=H.rows.at (zg (d:=⟨0,[],[]⟩) hf);have hfu:FuC w fb (fo+f * 3) (zf P f):=hfu0;have c0:=hfu.c0.1;have HFB:Box (Zo P f r b i=(decide (zeO P (zf P f)≤r) && frB P f r b i)):=hid rfl;have hparN:zeO P (zf P f)=(P.sigs.getD (zf P f).sig.toNat ([],0,0)).1.length:=by unfold zeO;rw[if_pos hsg]
 rw[hparN] at HFB;have hh:=zt.1 hsg;obtain ⟨s,hs'⟩:∃ s:Nat,(zf P f).sig=(s:Int):=⟨(zf P f).sig.toNat,by omega⟩;rw[hs'] at c0 hh HFB;rw[Int.toNat_natCast] at HFB;obtain ⟨sb,so,rfl,hsgc⟩:=r1.at (j:=s) (y:=P.sigs.getD s ([],0,0)) (zg (by omega));obtain ⟨ta,tp,ct,_⟩:=hsgc.c0;have hl:=hh.2;have hf':(f:Int)<(P.funcs.length:Int):=by omega
 have ka:=zc.alloc [] w (.cells #[int i64 (f:Int),int i64 (b:Int),int i64 (i:Int)] 99);have hnew:=zh w (.cells #[int i64 (f:Int),int i64 (b:Int),int i64 (i:Int)] 99);have HCO:Box (∀ (w':World) (b i:Nat),zc [] w w'→Zh P f b i→Calls Tryz.prog 50 #[pointer (some ⟨pb,po,none⟩),ptV f b i] w' (Qm w' P f b i)):=hid fun w' b i k hp=>JF (PrC.stays _ _ _ _ _ k h) hs f b i hp;have HNX:Box (∀ (w':World) (b i:Nat),zc [] w w'→Zh P f b i→Calls Tryz.prog 177 #[pointer (some ⟨pb,po,none⟩),ptV f b i] w' (zcp w' P f b i)):=hid fun w' b i k hp=>hnx w' b i (PrC.stays _ _ _ _ _ k h) hp;have HS0:Box (FrS P f r b i [(f,0,0)] 0):=hid (FrS.begin hf hb6 hb0);have HP:=hid hp;have HPT:Box (∀ (S:List (Nat × Nat × Nat)) k,FrS P f r b i S k→S.length≤150):=hid fun S k h=>Nat.le_trans h.len hs.pt;have HNO:Box (∀ (S:List (Nat × Nat × Nat)) k,FrS P f r b i S k→S.drop k=[]→frB P f r b i=false):=hid fun S k h h2=>FrS.none hr hb6 hp h h2;have HAD:Box (∀ (S:List (Nat × Nat × Nat)) k q m x,FrM P f r b i S k q m→m<(Jb P f q.2.1 q.2.2).length→(Jb P f q.2.1 q.2.2).getD m (0,0,0)=x→x ∉ S→FrM P f r b i (S ++ [x]) k q (m+1)):=hid fun S k q m x h1 h2 h3 h4=>FrM.add hr hb6 hb0 h1 h2 h3 h4;have g1:=za ka c1;have g4:=za ka h4;have g0:=za ka c0;have gt:=za ka ct;have HKA:=hid ka;have HB:=hid hnew;unfold ptV;clear hb6 hb0 c1 r1 H h4 hfu hfu0 c0 hparN hsgc ct ka hnew hsg hh hs' h hs hp hnx;generalize (P.sigs.getD s ([],0,0)).1.length=T at *;generalize P.funcs.length=NF at *;generalize P.sigs.length=NS at *;go_enter Tryz.func118,Tryz.ntmps118;go_upto_region 1 with fail;generalize hbx:w.heap.size=bx at *;generalize w.alloc (.cells #[int i64 (f:Int),int i64 (b:Int),int i64 (i:Int)] 99)=W at *;by_cases hrT:r<T
 ·have hrT':(r:Int)<(T:Int):=by omega
  have HV:Box (Zo P f r b i=false):=hid (by rw[HFB.o,decide_eq_false (by omega)];rfl);go_quiet (fail);go_wp2;go_ret;exact ⟨by rw[HV.o];rfl,HKA.o.quiet (zc.drewN [] _ _)⟩
 ·have hrT':¬ (r:Int)<(T:Int):=by omega
  rw[decide_eq_true (by omega:T≤r),Bool.true_and] at HFB;have HWB:Box (∀ w',zc [] W w'→w'.cell? ⟨bx,1,none⟩=some (int i64 (b:Int))∧w'.cell? ⟨bx,2,none⟩=some (int i64 (i:Int))):=hid fun w' k=>⟨za k (zd HB.o 1),za k (zd HB.o 2)⟩;go_quiet (fail);have KQ:=zc.drewN [] W nq;generalize W.drewN nq=W1 at *;obtain ⟨w2,hput,hseen,hk2⟩:=(Q8.made W1).put ((f:Int),0,0) (by simp);have hput':(Instr.mapUpdate 241 (.map (some W1.heap.size)) (agg #[int i64 (f:Int),int i64 0,int i64 0]) (.bool true)).run Tryz.prog (W1.alloc (.map #[] 0))=.ok () w2:=hput;have hmk:∀ w,(Instr.makeMap 241 none).run Tryz.prog w=.ok (.map (some w.heap.size)) (w.alloc (.map #[] 0)):=fun w=>by kernel_rfl
  clear hput g1 g4 g0 gt hl hf' hrT hrT';go_upto_region 4 with fail;obtain ⟨M,hM⟩:∃ M,W1.heap.size=M:=⟨_,rfl⟩;rw[hM] at hseen hk2 ⊢;have HWM:Box (W.heap.size≤M):=hid (by rw[← hM];exact KQ.size);have hM2:M<w2.heap.size:=hseen.lt;have HQ0:Box (FQ W (w2.alloc (.cells #[int i64 (f:Int),int i64 0,int i64 0] 99)) M (.slice (some ⟨w2.heap.size,0,none⟩) 1 1) [(f,0,0)] 0):=hid
   ⟨hseen.kept (zc.alloc [] _ _) (by simp),zg0 w2 (M+1) (f:Int) 0 0 hM2,((KQ.quiet (zc.alloc [] W1 (.map #[] 0))).fresh hk2 (fun x hx=>by have:=KQ.size;simp at hx;omega)).quiet (zc.alloc [] _ _)⟩
  clear hput' hseen hk2 KQ hM2;go_wp2_with fail;go_upto_region 5 with fail;generalize w2.alloc (.cells #[int i64 (f:Int),int i64 0,int i64 0] 99)=W3 at *;generalize Value.slice (some ⟨w2.heap.size,0,none⟩) 1 1=v0 at *;clear hM hmk
  go_loopg [10] 151 (fun gq lv wr=>∃ (S:List (Nat × Nat × Nat)) (k:Nat) (v:Value),v=lv∧k+gq=151∧Box (FrS P f r b i S k)∧Box (FQ W wr M v S k))
  case atStart=>exact ⟨[(f,0,0)],0,v0,rfl,rfl,HS0,HQ0⟩
  case round=>
   clear HS0 HQ0;obtain ⟨S,k,v,rfl,hgk,HF,HQ⟩:=hrel;obtain ⟨l,hl⟩:∃ l,S.drop k=l:=⟨_,rfl⟩;have HL:Box (Zf wr (M+1) v (l.map ptI)):=hid (by have:=HQ.o.line;rw[hl] at this;exact this);cases l with
   | nil=>
    have HV:Box (Zo P f r b i=false):=hid (by rw[HFB.o];exact HNO.o S k HF.o hl);obtain ⟨g,off,cap,rfl, -⟩:=HL.o.val;clear hl;go_wp2;go_ret;exact ⟨by rw[HV.o];rfl,HKA.o.quiet HQ.o.keep⟩
   | cons q l=>
    obtain ⟨hq,hdr⟩:=zgM hl;obtain ⟨q1,bq,iq⟩:=q;obtain ⟨hq1,hqp,hqf⟩:=HF.o.good _ (List.mem_of_getElem? hq);simp only at hq1 hqp hqf;have hq1':=hq1.symm;subst hq1';obtain ⟨g,off,cap,rfl,hcc0,hmx,d0,d1,d2,hgt,heq⟩:=Zf.first (q:=ptI (f,bq,iq)) HL.o;have d0':wr.cell? ⟨g,off,none⟩=some (int i64 (f:Int)):=d0;have d1':wr.cell? ⟨g,off+1,none⟩=some (int i64 (bq:Int)):=d1;have d2':wr.cell? ⟨g,off+2,none⟩=some (int i64 (iq:Int)):=d2;have hlc:l.length+1≤cap:=by
     obtain ⟨g',off',cap',e,_,_,_,h9⟩:=HL.o.val;simp only[List.length_cons,List.length_map] at h9;cases e;exact h9
    have hMid:∃ v2,Zf wr (M+1) v2 (l.map ptI)∧(cap=1→l.length=0∧v2=.slice (some ⟨g,off,none⟩) 0 0)∧(cap≠1→v2=.slice (some ⟨g,off+3,none⟩) l.length (cap - 1)):=by
     by_cases hc:cap=1
     ·obtain ⟨h8,h9⟩:=heq hc
      have hle:l=[]:=List.map_eq_nil_iff.1 h8;subst hle;exact ⟨_,h9,fun _=>⟨rfl,rfl⟩,fun h=>absurd hc h⟩
     ·have:=hgt (by omega)
      rw[List.length_map] at this;exact ⟨_,this,fun h=>absurd h hc,fun _=>rfl⟩
    obtain ⟨v2,hw2,hv1,hv2⟩:=hMid;have hkl:k<S.length:=(List.getElem?_eq_some_iff.1 hq).1;have k5:=zc.alloc [] wr (.cells #[int i64 (f:Int),int i64 (bq:Int),int i64 (iq:Int)] 99);have HQ5:Box (FQ W (wr.alloc (.cells #[int i64 (f:Int),int i64 (bq:Int),int i64 (iq:Int)] 99)) M v2 S (k+1)):=hid (FQ.quiet ⟨HQ.o.seen,by rw[hdr];exact hw2,HQ.o.keep⟩ k5);have HBQ:=hid (zh wr (.cells #[int i64 (f:Int),int i64 (bq:Int),int i64 (iq:Int)] 99));have HAT:=hid hq;have HQP:=hid hqp;have HLE:Box (k+1≤S.length):=hid hkl;have hS:=HPT.o S k HF.o;have hkg:k+1≤150:=by omega
    rw[List.length_map];obtain ⟨ll,hll⟩:∃ ll,l.length=ll:=⟨_,rfl⟩;rw[hll] at hlc hv1 hv2 ⊢;have hl1:(1:Int)≤((ll+1:Nat):Int):=by omega
    have hcc:(1:Int)≤(cap:Int):=by omega
    clear hw2 HL HQ d0 d1 d2 hgt heq k5 hdr hl hq hqp hqf hkl hll;go_upto_region 7 with fail;generalize wr.alloc (.cells #[int i64 (f:Int),int i64 (bq:Int),int i64 (iq:Int)] 99)=W5 at *;generalize wr.heap.size=qb at *
    go_cut [10] (fun t10 wz=>t10=v2∧wz=W5)
    case first=>
     by_cases hc1:cap=1
     ·subst hc1
      obtain ⟨hl0,hv3⟩:=hv1 rfl;subst hl0;subst hv3;clear hv1 hv2;go_wp2_with fail;go_meet;exact ⟨rfl,rfl⟩
     ·have hv3:=hv2 hc1
      subst hv3;clear hv1 hv2;go_wp2_with fail;go_meet;exact ⟨rfl,rfl⟩
    case rest=>
     obtain ⟨hv10,hwz⟩:=hcut;subst hv10;have hwz':=hwz.symm;subst hwz';obtain ⟨e1,e2⟩:=HWB.o _ HQ5.o.keep;have b0:=zd HBQ.o 0;have b1:=zd HBQ.o 1;have b2:=zd HBQ.o 2;clear d0' d1' d2' hlc hl1 hcc hmx hv1 hv2 hwz;go_upto_region 8 with fail
     go_cut [62] (fun t62 wz=>t62=.bool (decide (bq=b∧iq=i))∧wz=W5)
     case first=>
      by_cases eb:bq=b
      ·subst eb
       by_cases ei:iq=i
       ·subst ei
        go_wp2_with fail;go_meet;exact ⟨by simp,rfl⟩
       ·have o2:((iq:Int) == (i:Int))=false:=by simpa using (fun h=>ei (by omega))
        have HD:Box (decide (bq=bq∧iq=i)=false):=hid (by simp[ei]);clear ei;go_wp2_with fail;go_meet;exact ⟨by rw[HD.o],rfl⟩
      ·have o2:((bq:Int) == (b:Int))=false:=by simpa using (fun h=>eb (by omega))
       have HD:Box (decide (bq=b∧iq=i)=false):=hid (by simp[eb]);clear eb;go_wp2_with fail;go_meet;exact ⟨by rw[HD.o],rfl⟩
     case rest=>
      obtain ⟨rfl,hwz⟩:=hcut;have hwz':=hwz.symm;subst hwz';clear hwz;by_cases hqe:bq=b∧iq=i
      ·obtain ⟨eb,ei⟩:=hqe
       subst eb;subst ei;have HV:Box (Zo P f r bq iq=true):=hid (by rw[HFB.o];exact HF.o.yes HAT.o);go_wp2_with fail;go_ret;exact ⟨by rw[HV.o];rfl,HKA.o.quiet HQ5.o.keep⟩
      ·have HNE:Box (((f,bq,iq):Nat × Nat × Nat)≠(f,b,i)):=hid (fun e=>hqe (by simpa using e))
       rw[decide_eq_false hqe];clear hqe e1 e2;have HC1:=hid (HCO.o W5 bq iq (HKA.o.quiet HQ5.o.keep) HQP.o);unfold ptV at HC1;go_upto_region 11 with (go_at_call 50;refine HC1.o.mono ?_;intro e w6 h6;obtain ⟨x,ok,ar,rfl,k6,⟨aa,an,ac,rfl⟩,hda⟩:=zg3 h6;unfold z8)
       have ka:=zc.alloc [] w6 (.cells #[int i64 x.op,int i64 x.dst,int i64 x.a,int i64 x.b,int i64 x.n,.slice aa an ac] 54);have hci:=zh w6 (.cells #[int i64 x.op,int i64 x.dst,int i64 x.a,int i64 x.b,int i64 x.n,.slice aa an ac] 54);have HQ6:=hid (HQ5.o.quiet (k6.quiet ka));have HB6:Box (∀ w',zc [] (w6.alloc (.cells #[int i64 x.op,int i64 x.dst,int i64 x.a,int i64 x.b,int i64 x.n,.slice aa an ac] 54)) w'→w'.cell? ⟨qb,0,none⟩=some (int i64 (f:Int))∧w'.cell? ⟨qb,1,none⟩=some (int i64 (bq:Int))∧w'.cell? ⟨qb,2,none⟩=some (int i64 (iq:Int))):=hid fun w' k'=>⟨za ((k6.quiet ka).quiet k') b0,za ((k6.quiet ka).quiet k') b1,za ((k6.quiet ka).quiet k') b2⟩;have HDA:=hid (hda r);have i0:=zd hci 0;have i1:=zd hci 1;have i2:=zd hci 2;have i3:=zd hci 3;have i4:=zd hci 4;have i5:=zd hci 5;clear ka hci k6 h6 hda HQ5 b0 b1 b2 HBQ HC1;generalize w6.alloc (.cells #[int i64 x.op,int i64 x.dst,int i64 x.a,int i64 x.b,int i64 x.n,.slice aa an ac] 54)=W6 at *;generalize w6.heap.size=cb at *;have HD1:=hid (zb7 x (.slice aa an ac) W6);unfold z8 QC at HD1;go_upto_region 12 with (go_at_call 173;refine HD1.o.mono ?_;rintro e w7 ⟨rfl,k7⟩)
       have HQ7:=hid (HQ6.o.quiet k7);have HB7:Box (∀ w',zc [] w7 w'→w'.cell? ⟨qb,0,none⟩=some (int i64 (f:Int))∧w'.cell? ⟨qb,1,none⟩=some (int i64 (bq:Int))∧w'.cell? ⟨qb,2,none⟩=some (int i64 (iq:Int))):=hid fun w' k'=>HB6.o w' (k7.quiet k');clear HQ6 HB6 k7 HD1 i0 i1 i2 i3 i4 i5
       have HDB:Box (QK P f r bq iq=(ok && (zD x && decide ((if zD x=true then x.dst else 0)=(r:Int))))):=hid (by
        rw[HDA.o];unfold Jy;cases zD x with
        | false=>simp
        | true=>rw[if_pos rfl])
       clear HDA;generalize (if zD x=true then x.dst else 0)=dd at *;generalize zD x=df at *
       go_cut [82] (fun t82 wz=>t82=.bool (QK P f r bq iq)∧wz=w7)
       case first=>
        cases ok with
        | false=>
         rw[Bool.false_and] at HDB;go_wp2_with fail;go_meet;exact ⟨by rw[HDB.o],rfl⟩
        | true=>
         cases df with
         | false=>
          rw[Bool.false_and,Bool.and_false] at HDB;go_wp2_with fail;go_meet;exact ⟨by rw[HDB.o],rfl⟩
         | true=>
          rw[Bool.true_and,Bool.true_and] at HDB;by_cases edr:dd=(r:Int)
          ·rw[decide_eq_true edr] at HDB
           have o2:(dd == (r:Int))=true:=by simpa using edr
           clear edr;go_wp2_with fail;go_meet;exact ⟨by rw[HDB.o],rfl⟩
          ·rw[decide_eq_false edr] at HDB
           have o2:(dd == (r:Int))=false:=by simpa using edr
           clear edr;go_wp2_with fail;go_meet;exact ⟨by rw[HDB.o],rfl⟩
       case rest=>
        obtain ⟨rfl,hwz⟩:=hcut;have hwz':=hwz.symm;subst hwz';clear hwz HDB;cases hdf:QK P f r bq iq with
        | true=>
         have HF2:=hid (HF.o.pass HAT.o HNE.o hdf);clear hdf;go_wp2_with fail
         go_roundg (gk - 1)
         case measure=>omega
         case rel=>exact ⟨S,k+1,_,rfl,by omega,HF2,HQ7⟩
        | false=>
         have HM0:Box (FrM P f r b i S k (f,bq,iq) 0):=hid ⟨HF.o,HAT.o,HNE.o,hdf,fun y hy=>by simp at hy⟩;clear hdf;have HN1:=hid (HNX.o w7 bq iq (HKA.o.quiet HQ7.o.keep) HQP.o);unfold ptV at HN1;obtain ⟨b0,b1,b2⟩:=HB7.o _ (zc.refl _ _);go_upto_region 14 with (go_at_call 177;refine HN1.o.mono ?_;rintro e w8 ⟨na,ncp,rfl,hrows,k8,hnew8⟩)
         have HX0:=hid (NX.begin (lv:=u10) hrows hnew8 HQ7.o.seen.lt (fun x hx=>(HQ7.o.own x hx).2));have HQ8:=hid (HQ7.o.quiet k8);have HGO:Box (∀ (S:List (Nat × Nat × Nat)) m x,FrM P f r b i S k (f,bq,iq) m→m<(Jb P f bq iq).length→(Jb P f bq iq).getD m (0,0,0)=x→x∈S→FrM P f r b i S k (f,bq,iq) (m+1)):=hid fun S m x h1 h2 h3 h4=>h1.go h2 h3 h4;have HAA:Box (∀ (S:List (Nat × Nat × Nat)) m x,FrM P f r b i S k (f,bq,iq) m→m<(Jb P f bq iq).length→(Jb P f bq iq).getD m (0,0,0)=x→x ∉ S→FrM P f r b i (S ++ [x]) k (f,bq,iq) (m+1)):=hid fun S m x h1 h2 h3 h4=>HAD.o S k (f,bq,iq) m x h1 h2 h3 h4;have HEN:Box (∀ (S:List (Nat × Nat × Nat)) m,FrM P f r b i S k (f,bq,iq) m→(Jb P f bq iq).length≤m→FrS P f r b i S (k+1)):=hid fun S m h1 h2=>h1.end h2;have HML:Box (∀ (S:List (Nat × Nat × Nat)) m,FrM P f r b i S k (f,bq,iq) m→k+1≤S.length∧S.length≤150):=hid fun S m h1=>⟨(List.getElem?_eq_some_iff.1 h1.at').1,HPT.o S k h1.base⟩;have hnl:=zje P f bq iq;generalize Jb P f bq iq=L at *;obtain ⟨nl,hnle⟩:∃ nl,L.length=nl:=⟨_,rfl⟩;have HNL:=hid hnle;rw[hnle] at hnl ⊢;clear hrows k8 hnew8 HN1 b0 b1 b2 HB7 HQ7 hnle HF HAT HNE HLE;go_wp2_with fail
         go_loopw [10,17] (fun lv kv wr2=>∃ (S':List (Nat × Nat × Nat)) (v':Value) (m:Nat),v'=lv∧kv=int i64 (m:Int)∧m≤nl∧Box (FrM P f r b i S' k (f,bq,iq) m)∧Box (FQ W wr2 M v' S' (k+1))∧Box (NX wr2 M v' na L)) (fun _ kv _=>nl - (intOf kv).toNat)
         case atStart=>exact ⟨S,_,0,rfl,rfl,by omega,HM0,HQ8,HX0⟩
         case round=>
          clear HM0 HQ8 HX0;obtain ⟨S',v',m,rfl,rfl,hm,HFM,HQ,HX⟩:=hrel;by_cases hlt:m<nl
          ·have hlt':(m:Int)<(nl:Int):=by omega
           have hlt2:m<L.length:=by rw[HNL.o];exact hlt
           obtain ⟨x,hx⟩:∃ x,L.getD m (0,0,0)=x:=⟨_,rfl⟩;have hxg:L[m]? = some x:=by rw[← hx];exact zg hlt2
           obtain ⟨ng,no,rfl,hpc⟩:=HX.o.at hxg;obtain ⟨xf,xb,xi⟩:=x;have z0:=hpc.c0;have z1:=hpc.c1;have z2:=hpc.c2;simp only at z0 z1 z2;have hlk:=HQ.o.seen.look (ptI (xf,xb,xi));have hlk':(Instr.lookup 241 (.map (some M)) (agg #[int i64 (xf:Int),int i64 (xb:Int),int i64 (xi:Int)]) false).run Tryz.prog wr=.ok (.bool (decide (ptI (xf,xb,xi)∈S'.map ptI))) wr:=hlk;clear hlk hpc;by_cases hin:(xf,xb,xi)∈S'
           ·have HF2:=hid (HGO.o S' m _ HFM.o hlt2 hx hin)
            rw[decide_eq_true (zfb.2 hin)] at hlk';clear hin hxg hx hlt2;go_wp2_with fail;go_roundw
            case rel=>exact ⟨S',v',m+1,rfl,by go_num,by omega,HF2,HQ,HX⟩
            case measure=>simp[intOf];omega
           ·have HF2:=hid (HAA.o S' m _ HFM.o hlt2 hx hin)
            have hni:ptI (xf,xb,xi) ∉ S'.map ptI:=fun h=>hin (zfb.1 h);rw[decide_eq_false hni] at hlk';obtain ⟨w3,hput,hseen3,k3⟩:=HQ.o.seen.put (ptI (xf,xb,xi)) hni;have hput':(Instr.mapUpdate 241 (.map (some M)) (agg #[int i64 (xf:Int),int i64 (xb:Int),int i64 (xi:Int)]) (.bool true)).run Tryz.prog wr=.ok () w3:=hput;have HX3:=hid (HX.o.put k3);have HS3:=hid hseen3;have HK3:=hid k3;obtain ⟨ng',no',e9,hpc3⟩:=HX3.o.at hxg;simp only[Option.some.injEq,Addr.mk.injEq,and_true] at e9;obtain ⟨e8,e9⟩:=e9;subst e8;subst e9;have y0:=hpc3.c0;have y1:=hpc3.c1;have y2:=hpc3.c2;simp only at y0 y1 y2;have HML':=HML.o S' m HFM.o;have hml2:S'.length≤150:=HML'.2;have hln:(S'.drop (k+1)).length<1000000:=by rw[List.length_drop];omega
            have HLN:Box (((S'.drop (k+1)).map ptI).length<1000000):=hid (by rw[List.length_map];exact hln);have HL3:Box (Zf w3 (M+1) v' ((S'.drop (k+1)).map ptI)):=hid (HQ.o.line.kept k3 (fun x hx=>by have:=HQ.o.own x hx;simp;omega));have HMW:Box (M+1≤w3.heap.size):=hid hseen3.lt
            have HN3:Box (∀ j u,(pc ((xf:Int),(xb:Int),(xi:Int)))[j]? = some u→(w3.alloc (.cells #[int i64 (xf:Int),int i64 (xb:Int),int i64 (xi:Int)] 99)).cell? ((⟨w3.heap.size,0,none⟩:Addr).add j)=some u):=hid (fun j u hu=>by
             have hnw:=zh w3 (.cells #[int i64 (xf:Int),int i64 (xb:Int),int i64 (xi:Int)] 99);rw[Addr.add_lit,zd hnw (0+j),Nat.zero_add];rw[← hu];unfold pc
             match j with
             | 0=>rfl
             | 1=>rfl
             | 2=>rfl
             | j+3=>rfl)
            clear hput hseen3 k3 hin hni hxg hx hlt2 hpc3 hln;have hkl:k+1≤S'.length:=HML'.1;have HKL:=hid hkl;clear hkl HML' hml2;go_upto_region 19 with fail;clear z0 z1 z2 hlk' hput';obtain ⟨g5,off5,cap5,hv5, -⟩:=HL3.o.val;subst hv5;go_wp2_with (at_builtin;go_must (refine Jh _ rfl _ _ rfl (M+1) (Nat.le_trans HMW.o (by simp)) ((S'.drop (k+1)).map ptI) ((xf:Int),(xb:Int),(xi:Int)) _ rfl (HL3.o.kept (zc.alloc [] _ _) (fun _ _=>by simp)) ⟨w3.heap.size,0,none⟩ 1 rfl HN3.o HLN.o ?_;intro v6 w6 hl6 k6 hat6));have HQ9:=hid (HQ.o.add HWM.o HKL.o HS3.o HK3.o (zc.alloc [] w3 (.cells #[int i64 (xf:Int),int i64 (xb:Int),int i64 (xi:Int)] 99)) hl6 k6);have HX9:=hid ((HX3.o.quiet (zc.alloc [] w3 (.cells #[int i64 (xf:Int),int i64 (xb:Int),int i64 (xi:Int)] 99))).push k6 hat6);clear hl6 k6 hat6;go_roundw
            case rel=>exact ⟨_,v6,m+1,rfl,by go_num,by omega,HF2,HQ9,HX9⟩
            case measure=>simp[intOf];omega
          ·obtain rfl:m=nl:=by omega
           have HF2:=hid (HEN.o S' m HFM.o (by rw[HNL.o];exact Nat.le_refl _));go_wp2_with fail
           go_roundg (gk - 1)
           case measure=>omega
           case rel=>exact ⟨S',k+1,v',rfl,by omega,HF2,HQ⟩
theorem zha(h:PrC w pb po P)(hs:Sm8 P)(hp:Zh P f b i)(hsg:inB (zf P f).sig P.sigs.length=true)(hr:r<5000):
  Calls Tryz.prog 118 #[pointer (some ⟨pb,po,none⟩),int i64 (f:Int),int i64 (r:Int),ptV f b i] w fun e w'=>e=.returned (.bool (Zo P f r b i))∧zc [] w w':=
 zh8 h hs hp hsg hr (fun _ b i h hp=>zgD h hs f b i hp)
theorem zh7{x:Bl8}{s:Nat→Bool}{fn:Nat}{args:Array Value}(h:Calls Tryz.prog fn args w (zbw x s b w)):Calls Tryz.prog fn args w fun e w'=>∃ v:Int,e=.returned (int i64 v)∧((∃ k:Nat,k≤x.code.length∧v=(k:Int)∧ZU x s k=true∧∀ j,j<k→ZU x s j=false)∨(v= -1∧∀ k,k≤x.code.length→ZU x s k=false))∧zc [b] w w':=by
 refine h.mono ?_;rintro e w' ⟨⟨k,h1,rfl,h2⟩ | ⟨rfl,h2⟩,h3⟩
 ·exact ⟨_,rfl,.inl ⟨k,h1,rfl,h2⟩,h3⟩
 ·exact ⟨_,rfl,.inr ⟨rfl,h2⟩,h3⟩
theorem zfE(h:PrC w pb po P)(hT:Ze w)(hz:SzP P):
  Calls Tryz.prog 86 #[pointer (some ⟨pb,po,none⟩)] w (Zs ((pts P).find? (za0 P)) 5 w):=by
 have HFL:Box (∀ (w':World) (f:Nat),zc [] w w'→f<P.funcs.length→Calls Tryz.prog 131 #[pointer (some ⟨pb,po,none⟩),int i64 (f:Int)] w' fun e w''=>∃ a,e=.returned (agg #[int i64 ((zy (zf P f)).length:Int),.slice a (zy (zf P f)).length (zy (zf P f)).length])∧GAt w'' w''.heap.size a (zy (zf P f))∧zc [] w' w''):=hid fun w' f k hf=>zby (PrC.stays _ _ _ _ _ k h) hf (hz.bk f hf);have HRE:Box (∀ (w':World) (f:Nat) (a:Option Addr),f<P.funcs.length→GAt w' w'.heap.size a (zy (zf P f))→Calls Tryz.prog 133 #[agg #[int i64 ((zy (zf P f)).length:Int),.slice a (zy (zf P f)).length (zy (zf P f)).length]] w' fun e w''=>∃ b,e=.returned (pointer (some ⟨b,0,none⟩))∧zJ w'' b (rch (zy (zf P f)) [0])∧zc [] w' w''∧w'.heap.size≤b):=hid fun w' f a hf hG=>Q7 (zy (zf P f)) (jk (hz.bk f hf)) a _ w'.heap.size w' hG (Nat.le_refl _);have HRF:Box (∀ f,f<P.funcs.length→Fit (rch (zy (zf P f)) [0])):=hid fun f hf=>JE (jk (hz.bk f hf)) [0] zM QV;have HIN:Box (∀ (w':World) (f:Nat),zc [] w w'→f<P.funcs.length→Calls Tryz.prog 136 #[pointer (some ⟨pb,po,none⟩),int i64 (f:Int)] w' (zgl w' P (zf P f))):=hid fun w' f k hf=>zm3 (PrC.stays _ _ _ _ _ k h) (hT.kept k (by simp)) hf (hz.bk0 f hf) (hz.bk f hf) (hz.rg f hf) (fun b=>hz.code f b hf);obtain ⟨fa,fcp,H⟩:=h.fns;have h4:=H.cell;have C4:Box (∀ w',zc [] w w'→w'.cell? ⟨pb,po+4,none⟩=some (.slice fa P.funcs.length fcp)):=hid fun w' k=>za k h4;have FA:Box (∀ f,f<P.funcs.length→∃ fb fo ba bcp,fa=some ⟨fb,fo,none⟩∧zh1 w fb fo P f ba bcp):=hid fun f hf=>H.at hf;have HZ:=hid hz;have hN:=hz.fn;clear h H h4 hT hz;obtain ⟨N,hNe⟩:∃ N,P.funcs.length=N:=⟨_,rfl⟩;have HN:=hid hNe;rw[hNe] at HFL HRE HRF HIN C4 FA hN;clear hNe;have c4:=C4.o _ (zc.refl _ _);go_enter Tryz.func86,Tryz.ntmps86;go_wp2_with fail;clear c4
 go_loopw [15] (fun i wr=>∃ f:Nat,f≤N∧i=int i64 (f:Int)∧Box (zc [] w wr)∧Box (ZK (za0 P) (ptP P f))) (fun i _=>N - (intOf i).toNat)
 case atStart=>exact ⟨0,by omega,rfl,hid (zc.refl _ _),hid (ZK.nil _)⟩
 case round=>
  obtain ⟨f,hf,rfl,HK,HW⟩:=hrel;by_cases hlt:f<N
  ·have hlt':(f:Int)<(N:Int):=by omega
   go_upto_region 8 with (first
    | (go_at_call 131;refine (HFL.o _ f HK.o hlt).mono ?_;rintro e w1 ⟨a1,rfl,g1,k1⟩)
    | (go_at_call 133;refine (HRE.o _ f a1 hlt g1).mono ?_;rintro e w2 ⟨b2,rfl,h2,k2,n2⟩)
    | (go_at_call 136;refine (HIN.o _ f ((HK.o.quiet k1).quiet k2) hlt).mono ?_;rintro e w3 ⟨p3,d3,q3,rfl,h3,l3,m3,k3⟩))
   have HH3:=hid h3;have HK3:=hid (((HK.o.quiet k1).quiet k2).quiet k3);have H2:=hid (h2.kept k3 (by simp));have hb2:b2<w2.heap.size:=h2.lt';have hw2:w.heap.size≤w2.heap.size:=((HK.o.quiet k1).quiet k2).size;have HNEW:Box (∀ j,j<(zf P f).blocks.length→q3≤d3 j):=hid h3.new;have HINJ:=hid h3.inj;have HHF:=hid (HRF.o f hlt)
   have HIF:=hid fun (b:Nat)=>(show Fit (inS P (zf P f) b) from fun m hm=>by
    have:=HZ.o.rg f (by rw[HN.o];exact hlt);unfold inS;rw[decide_eq_false (by omega)]
    rfl)
   have HBF:Box (∀ b,b<(zf P f).blocks.length→∀ (w':World) (db:Nat),zc [] w w'→zJ w' db (inS P (zf P f) b)→w.heap.size≤db→∃ fb fo bb bo bcp,fa=some ⟨fb,fo,none⟩∧w'.cell? ⟨fb,fo+f * 3+2,none⟩=some (.slice (some ⟨bb,bo,none⟩) (zf P f).blocks.length bcp)∧Calls Tryz.prog 137 #[pointer (some ⟨bb,bo+b * 5,none⟩),pointer (some ⟨db,0,none⟩)] w' (zbw (zr (zf P f) b) (inS P (zf P f) b) db w')):=hid fun b hb w' db k' hs' hdb=>by
    obtain ⟨fb,fo,ba,bcp,e,BB⟩:=FA.o f hlt;obtain ⟨bb,bo,rfl,hbl⟩:=BB.at hb;have hf':f<P.funcs.length:=by rw[HN.o];exact hlt
    exact ⟨fb,fo,bb,bo,bcp,e,za k' BB.cell,zbm hbl k' (HZ.o.code f b hf') (fun k hk=>HZ.o.few f b k hf' hk) hs' (HIF.o b) hdb⟩
   have HPT:=hid fun (b i:Nat) (hb:b<(zf P f).blocks.length) (hi:i≤(zr (zf P f) b).code.length)=>(show Zh P f b i from ⟨by rw[HN.o];exact hlt,hb,hi⟩);have HB6:Box ((zf P f).blocks.length≤600):=hid (HZ.o.bk f (by rw[HN.o];exact hlt));have hB6:=HB6.o;clear h2 h3 k1 k2 k3 n2 g1 HK;obtain ⟨n,hn⟩:∃ n,(zf P f).blocks.length=n:=⟨_,rfl⟩;have HNB:=hid hn;rw[hn] at HH3 HNEW HINJ HBF HPT hB6 ⊢;clear hn
   go_loopw [26] (fun i wr=>∃ b:Nat,b≤n∧i=int i64 (b:Int)∧Box (zc [] w wr)∧Box (zJ wr b2 (rch (zy (zf P f)) [0]))∧Box (qQ wr w2.heap.size p3 n 198 (pv n d3))∧Box (∀ j,b≤j→j<n→zJ wr (d3 j) (inS P (zf P f) j))∧Box (ZK (za0 P) (ptF (zf P f) f b))) (fun i _=>n - (intOf i).toNat)
   case atStart=>exact ⟨0,by omega,rfl,HK3,H2,hid HH3.o.row,hid (fun j _ hj=>HH3.o.set j hj),hid (ZK.nil _)⟩
   case round=>
    clear HK3 H2 HH3;obtain ⟨b,hb,rfl,HK,H2,HRO,HST,HWB⟩:=hrel;by_cases hlb:b<n
    ·have hlb':(b:Int)<(n:Int):=by omega
     have cz:=HRO.o.cell hlb;unfold pv at cz;rw[if_pos hlb] at cz;have HHS:Box (∀ w',zJ w' b2 (rch (zy (zf P f)) [0])→Calls Tryz.prog 134 #[pointer (some ⟨b2,0,none⟩),int i64 (b:Int)] w' fun e w''=>e=.returned (.bool (rch (zy (zf P f)) [0] b))∧∃ m,w''=w'.drewN m):=hid fun w' h'=>by
      have:=Q3 b2 (rch (zy (zf P f)) [0]) (b:Int) w' h' HHF.o;unfold ZL at this;rw[Int.toNat_natCast,decide_eq_true (by omega:(0:Int)≤(b:Int)),Bool.true_and] at this;exact this
     cases hm:rch (zy (zf P f)) [0] b with
     | false=>
      rw[hm] at HHS;have HWN:=hid (zil hm ((zr (zf P f) b).code.length+1));clear hm;go_wp2_with (go_at_call 134;refine (HHS.o _ H2.o).mono ?_;rintro e w5 ⟨rfl,m5,rfl⟩);have kd:=zc.drewN [] wr m5;go_roundw
      case rel=>exact ⟨b+1,by omega,by go_num,hid (HK.o.quiet kd),hid (H2.o.kept kd (by simp)),hid (HRO.o.kept kd (by simp)),hid (fun j h1 h2=>(HST.o j (by omega) h2).kept kd (by simp)),hid (by rw[qX];exact HWB.o.app HWN.o)⟩
      case measure=>simp[intOf];omega
     | true=>
      rw[hm] at HHS;have HM:=hid hm;clear hm;have HDB:Box (w.heap.size≤d3 b):=hid (by have:=HNEW.o b hlb;omega);have HD2:Box (d3 b≠b2):=hid (by have:=HNEW.o b hlb;omega);have HDP:Box (p3≠d3 b):=hid (by have:=HNEW.o b hlb;omega);go_upto_region 11 with (go_at_call 134;refine (HHS.o _ H2.o).mono ?_;rintro e w5 ⟨rfl,m5,rfl⟩)
      have kd:=zc.drewN [] wr m5;have HK5:=hid (HK.o.quiet kd);have H25:=hid (H2.o.kept kd (by simp));have HR5:=hid (HRO.o.kept kd (by simp));have HS5:Box (∀ j,b≤j→j<n→zJ (wr.drewN m5) (d3 j) (inS P (zf P f) j)):=hid (fun j h1 h2=>(HST.o j h1 h2).kept kd (by simp));clear HK H2 HRO HST kd cz HHS;generalize wr.drewN m5=w6 at *;obtain ⟨fb,fo,bb,bo,bcp,rfl,c2,hbare⟩:=HBF.o b hlb w6 (d3 b) HK5.o (HS5.o b (Nat.le_refl _) hlb) HDB.o;have c4:=C4.o _ HK5.o;have HBR:=hid (zh7 hbare);clear hbare;go_upto_region 12 with (go_at_call 137;refine HBR.o.mono ?_;rintro e w7 ⟨v7,rfl,h7,k7⟩)
      have HKN:=hid (HK5.o.fresh k7 (fun x hx=>by have:=HDB.o;simp at hx;omega));rcases h7 with ⟨k,hk,rfl,hbad,hgood⟩ | ⟨rfl,hgood⟩
      ·have hk0:(0:Int)≤(k:Int):=by omega
       have HFD:Box ((pts P).find? (za0 P)=some (f,b,k)):=hid (ze0 (HPT.o b k hlb hk) (HW.o.app (HWB.o.app (zfz hgood))) (by
        show (rch (zy (zf P f)) [0] b && ZU (zr (zf P f) b) (inS P (zf P f) b) k)=true;rw[HM.o,hbad]
        rfl))
       clear hbad hgood hk;go_wp2_with (go_at_call 135;refine (zd8 _ _ _ _ _).mono ?_;rintro e w8 ⟨p8,rfl,h8,k8⟩);go_ret;unfold Zs;rw[HFD.o];exact ⟨p8,rfl,h8,HKN.o.quiet k8⟩
      ·have HWN:=hid (zfz (P:=P) (f:=f) (b:=b) (n:=(zr (zf P f) b).code.length+1) (fun i hi=>hgood i (by omega)))
       clear hgood;go_wp2_with fail;go_roundw
       case rel=>exact ⟨b+1,by omega,by go_num,HKN,hid (H25.o.kept k7 (by have:=HD2.o;simp;omega)),hid (HR5.o.kept k7 (by have:=HDP.o;simp;omega)),hid (fun j h1 h2=>(HS5.o j (by omega) h2).kept k7 (by have:=HINJ.o j b h2 hlb (by omega);simp;omega)),hid (by rw[qX];exact HWB.o.app HWN.o)⟩
       case measure=>simp[intOf];omega
    ·obtain rfl:b=n:=by omega
     rw[← HNB.o] at HWB;go_wp2_with fail;go_roundw
     case rel=>exact ⟨f+1,by omega,by go_num,HK,hid (by rw[Z8];exact HW.o.app HWB.o)⟩
     case measure=>simp[intOf];omega
  ·obtain rfl:f=N:=by omega
   have HFD:Box ((pts P).find? (za0 P)=none):=hid (ZN (by unfold pts;rw[HN.o];exact HW.o));go_wp2;go_ret;unfold Zs;rw[HFD.o];exact ⟨rfl,HK.o⟩
def qI(P:Pr8)(q:Nat × Nat × Nat):List Int:=
 if q.2.2<(zr (zf P q.1) q.2.1).code.length then zN (zT (zr (zf P q.1) q.2.1) q.2.2)
 else if (zr (zf P q.1) q.2.1).fin=2∨(zr (zf P q.1) q.2.1).fin=3 then [(zr (zf P q.1) q.2.1).reg] else []
def zbD(P:Pr8)(q:Nat × Nat × Nat):Bool:=(qI P q).any fun z=>Zo P q.1 z.toNat q.2.1 q.2.2
theorem zaR(h:zB P=none)(hp:Zh P f b i):zcs P (f,b,i)=true:=by
 have ht:=jU h;have hh:=Zq h hp.1;unfold zB at h;rw[if_pos ht] at h;cases hf:(List.range P.funcs.length).findSome? (J5 P) with
 | some q=>rw[hf] at h;cases h
 | none=>
  have h1:=List.findSome?_eq_none_iff.1 hf f (List.mem_range.2 hp.1);unfold J5 at h1;rw[if_pos hh,Option.map_eq_none_iff,List.find?_eq_none] at h1;have:=h1 (f,b,i) (zcX.2 ⟨b,i,hp.2.1,hp.2.2,rfl⟩);simpa using this
theorem JJ(h:zB P=none)(hp:Zh P f b i):∀ z,z∈qI P (f,b,i)→inB z (zf P f).regs.length=true:=by
 intro z hz;have h1:=zaR h hp;unfold qI at hz;by_cases hi:i<(zr (zf P f) b).code.length
 ·rw[if_pos hi] at hz
  rw[zcM hi] at h1;obtain ⟨k,hk⟩:=List.getElem?_of_mem hz;exact qz (Q5 h1).1 k z hk
 ·rw[if_neg hi] at hz
  obtain rfl:i=(zr (zf P f) b).code.length:=by have:=hp.2.2;omega
  rw[QT] at h1;simp only at hz;unfold qH at h1;split at hz
  ·next e=>
   obtain rfl:=List.mem_singleton.1 hz;rcases e with e | e
   ·rw[e,if_neg (by decide),if_pos rfl,Bool.and_eq_true] at h1
    exact h1.1
   ·rw[e,if_neg (by decide),if_neg (by decide),if_pos rfl,Bool.and_eq_true] at h1
    exact h1.1
  ·cases hz
theorem zeY(hp:Zh P f b i)(s:Nat→Bool):ZU (zr (zf P f) b) s i=(qI P (f,b,i)).any fun z=> !ZL (dfS ((zr (zf P f) b).code.take i) s) z:=by
 unfold qI;by_cases hi:i<(zr (zf P f) b).code.length
 ·rw[zdF hi,if_pos hi,List.not_all_eq_any_not]
 ·rw[if_neg hi]
  obtain rfl:i=(zr (zf P f) b).code.length:=by have:=hp.2.2;omega
  rw[zco,List.take_length];simp only;split
  ·next e=>rw[decide_eq_true e];simp
  ·next e=>rw[decide_eq_false e];simp
theorem zhO{F:Fu8}(hb:F.blocks.length≤600)(h0:0<F.blocks.length)(h:js F r b=true):rch (zy F) [0] b=true:=by
 have p:=(QM hb h0 r b).1 h;rw[zcO (jk hb).ok];refine ⟨0,Zc.2 ⟨by simp,by rw[zO];exact h0⟩,?_⟩;have key:b<F.blocks.length∧Pth (zy F) noS 0 b:=by
  refine p.carry (C:=fun u=>u<F.blocks.length∧Pth (zy F) noS 0 u) ?_ ⟨h0,Pth.refl rfl⟩;intro u hu _ v hv _;rw[zcS hu.1] at hv;split at hv
  ·cases hv
  ·exact ⟨zhc v hv,Pth.snoc hu.2 (by rw[Ql hu.1];exact hv) rfl⟩
 exact key.2
theorem ziq(hr:r<5000)(hl:r<(zf P f).regs.length):(!ZL (dfS ((zr (zf P f) b).code.take i) (inS P (zf P f) b)) (r:Int))=Zo P f r b i:=by
 unfold ZL Zo frB;rw[Int.toNat_natCast,decide_eq_true (by omega:(0:Int)≤(r:Int)),Bool.true_and,zbe _ _ _ hr];unfold inS;rw[decide_eq_true hl,Bool.true_and];have e:zex (zr (zf P f) b) r i= !(((zr (zf P f) b).code.take i).any fun i=>Jy i r):=by
  unfold zex;rw[List.not_any_eq_all_not]
 rw[e];cases decide (zeO P (zf P f)≤r) <;> cases js (zf P f) r b <;> cases (((zr (zf P f) b).code.take i).any fun i=>Jy i r) <;> rfl
theorem zjc(hn:zB P=none)(hp:Zh P f b i)(hb:(zf P f).blocks.length≤600)(hr:(zf P f).regs.length≤1000):za0 P (f,b,i)=zbD P (f,b,i):=by
 have h0:0<(zf P f).blocks.length:=by have:=hp.2.1;omega
 show (rch (zy (zf P f)) [0] b && ZU (zr (zf P f) b) (inS P (zf P f) b) i)=(qI P (f,b,i)).any fun z=>Zo P f z.toNat b i;rw[zeY hp];have e:∀ z,z∈qI P (f,b,i)→(!ZL (dfS ((zr (zf P f) b).code.take i) (inS P (zf P f) b)) z)=Zo P f z.toNat b i:=by
  intro z hz;have h1:=zt.1 (JJ hn hp z hz);obtain ⟨r,rfl⟩:=Int.eq_ofNat_of_zero_le h1.1;exact ziq (by omega) (by omega)
 have e2:((qI P (f,b,i)).any fun z=> !ZL (dfS ((zr (zf P f) b).code.take i) (inS P (zf P f) b)) z)=(qI P (f,b,i)).any fun z=>Zo P f z.toNat b i:=by
  rw[Bool.eq_iff_iff,List.any_eq_true,List.any_eq_true];constructor
  ·rintro ⟨z,h1,h2⟩;exact ⟨z,h1,by rw[← e z h1];exact h2⟩
  ·rintro ⟨z,h1,h2⟩;exact ⟨z,h1,by rw[e z h1];exact h2⟩
 rw[e2];cases ha:((qI P (f,b,i)).any fun z=>Zo P f z.toNat b i) with
 | false=>rw[Bool.and_false]
 | true=>
  obtain ⟨z,_,hz⟩:=List.any_eq_true.1 ha;unfold Zo frB at hz;simp only[Bool.and_eq_true] at hz;rw[zhO hb h0 hz.2.1];rfl
theorem za1{α:Type}{p q:α→Bool}:∀ {l:List α},(∀ x,x∈l→p x=q x)→l.find? p=l.find? q
 | [],_=>rfl
 | a :: l,h=>by
  rw[List.find?_cons,List.find?_cons,h a (List.mem_cons_self ..),za1 fun x hx=>h x (List.mem_cons_of_mem _ hx)]
theorem zg4(hn:zB P=none)(hb:∀ f,f<P.funcs.length→(zf P f).blocks.length≤600)(hr:∀ f,f<P.funcs.length→(zf P f).regs.length≤1000):(pts P).find? (za0 P)=(pts P).find? (zbD P):=by
 refine za1 ?_;rintro ⟨f,b,i⟩ hq;have hp:=jQ.1 hq;exact zjc hn hp (hb f hp.1) (hr f hp.1)
theorem zeJ(h:PrC w pb po P)(hs:Sm8 P)(hfew:zjI P)(hp:Zh P f b i):
  Calls Tryz.prog 117 #[pointer (some ⟨pb,po,none⟩),ptV f b i] w fun e w'=>∃ a cp,e=.returned (.slice a (qI P (f,b,i)).length cp)∧zw w' a (qI P (f,b,i))∧zc [] w w':=by
 have ka:=zc.alloc [] w (.cells #[int i64 (f:Int),int i64 (b:Int),int i64 (i:Int)] 99);have hq:=zh w (.cells #[int i64 (f:Int),int i64 (b:Int),int i64 (i:Int)] 99);have HC:=hid (JF (PrC.stays _ _ _ _ _ ka h) hs f b i hp);have HFW:=hid fun (hi:i<(zr (zf P f) b).code.length)=>hfew f b i hp.1 hp.2.1 hi;obtain ⟨fa,fcp,HH⟩:=h.fns;obtain ⟨fb,fo,ba,bcp,rfl,B⟩:=HH.at hp.1;obtain ⟨bb,bo,rfl,L⟩:=B.at hp.2.1;obtain ⟨ca,ccp,hcc0,_⟩:=L.c0;have hf:(f:Int)<(P.funcs.length:Int):=by have:=hp.1;omega
 have hb:(b:Int)<((zf P f).blocks.length:Int):=by have:=hp.2.1;omega
 have hi:=hp.2.2;have HRL:Box (qI P (f,b,i)=if i<(zr (zf P f) b).code.length then zN (zT (zr (zf P f) b) i) else if (zr (zf P f) b).fin=2∨(zr (zf P f) b).fin=3 then [(zr (zf P f) b).reg] else []):=hid rfl;have CS:Box (∀ w',zc [] w w'→w'.cell? ⟨pb,po+4,none⟩=some (.slice (some ⟨fb,fo,none⟩) P.funcs.length fcp)∧w'.cell? ⟨fb,fo+f * 3+2,none⟩=some (.slice (some ⟨bb,bo,none⟩) (zf P f).blocks.length bcp)∧w'.cell? ⟨bb,bo+b * 5,none⟩=some (.slice ca (zr (zf P f) b).code.length ccp)∧w'.cell? ⟨bb,bo+b * 5+1,none⟩=some (int i64 (zr (zf P f) b).fin)∧w'.cell? ⟨bb,bo+b * 5+2,none⟩=some (int i64 (zr (zf P f) b).reg)∧w'.cell? ⟨bb,bo+b * 5+3,none⟩=some (int i64 (zr (zf P f) b).to)∧w'.cell? ⟨bb,bo+b * 5+4,none⟩=some (int i64 (zr (zf P f) b).els)):=hid fun w' k=>⟨za k HH.cell,za k B.cell,za k hcc0,za k L.c1.1,za k L.c2.1,za k L.c3.1,za k L.c4.1⟩;have KA:=hid ka;have HQ:=hid hq;clear h hs hp HH B L hcc0 ka hq hfew;unfold Qm at HC;generalize P.funcs.length=N at *;generalize (zf P f).blocks.length=NB at *;generalize qI P (f,b,i)=RL at *;generalize zr (zf P f) b=x at *;unfold ptV at HC ⊢;go_enter Tryz.func117,Tryz.ntmps117;go_upto_region 1 with fail;generalize w.alloc (.cells #[int i64 (f:Int),int i64 (b:Int),int i64 (i:Int)] 99)=W at *;generalize w.heap.size=q at *;have p0:=zd HQ.o 0;have p1:=zd HQ.o 1;have p2:=zd HQ.o 2;by_cases hin:i<x.code.length
 ·rw[if_pos hin] at HRL
  have hfw:=HFW.o hin
  have HC2:Box (Calls Tryz.prog 50 #[pointer (some ⟨pb,po,none⟩),agg #[int i64 (f:Int),int i64 (b:Int),int i64 (i:Int)]] W fun e w'=>∃ a cp,e=.returned (atV (zT x i) (.slice a (zT x i).args.length cp))∧zw w' a (zT x i).args∧zc [] W w'):=hid (HC.o.mono fun e w' h'=>by
   rcases h' with ⟨k,⟨_,a,cp,h1,h2,_⟩ | ⟨h1,_⟩⟩
   ·exact ⟨a,cp,h1,h2,k⟩
   ·exact absurd hin h1)
  clear HC HFW hi CS;generalize zT x i=y at *;unfold atV z8 at HC2;go_upto_region 2 with (go_at_call 50;refine HC2.o.mono ?_;rintro e w3 ⟨aa,ac,rfl,hz3,k3⟩)
  have ka:=zc.alloc [] w3 (.cells #[int i64 y.op,int i64 y.dst,int i64 y.a,int i64 y.b,int i64 y.n,.slice aa y.args.length ac] 54);have hci:=zh w3 (.cells #[int i64 y.op,int i64 y.dst,int i64 y.a,int i64 y.b,int i64 y.n,.slice aa y.args.length ac] 54);have HK3:=hid (KA.o.quiet (k3.quiet ka));have HU:=hid (zaW y aa ac _ (hz3.kept ka (fun _ _ _=>by simp)) (by omega));have i0:=zd hci 0;have i1:=zd hci 1;have i2:=zd hci 2;have i3:=zd hci 3;have i4:=zd hci 4;have i5:=zd hci 5;clear ka hci k3 hz3 p0 p1 p2 HC2 HQ KA;unfold z8 at HU;generalize w3.alloc (.cells #[int i64 y.op,int i64 y.dst,int i64 y.a,int i64 y.b,int i64 y.n,.slice aa y.args.length ac] 54)=W3 at *;generalize w3.heap.size=cb at *;generalize y.args.length=al at *;go_wp2_with (go_at_call 174;refine HU.o.mono ?_;rintro e w4 ⟨a4,c4,rfl,hz4,k4⟩);go_ret;rw[HRL.o];exact ⟨a4,c4,rfl,hz4,HK3.o.quiet k4⟩
 ·rw[if_neg hin] at HRL
  obtain rfl:i=x.code.length:=by omega
  have HC2:Box (Calls Tryz.prog 50 #[pointer (some ⟨pb,po,none⟩),agg #[int i64 (f:Int),int i64 (b:Int),int i64 (x.code.length:Int)]] W fun e w'=>e=.returned zko∧zc [] W w'):=hid (HC.o.mono fun e w' h'=>by
   rcases h' with ⟨k,⟨h1,_⟩ | ⟨_,h1⟩⟩
   ·exact absurd h1 hin
   ·exact ⟨h1,k⟩)
  clear HC HFW hi hin;unfold zko z8 zfl at HC2;go_upto_region 2 with (go_at_call 50;refine HC2.o.mono ?_;rintro e w3 ⟨rfl,k3⟩)
  have ka:=zc.alloc [] w3 (.cells #[int i64 0,int i64 0,int i64 0,int i64 0,int i64 0,.slice none 0 0] 54);have HK3:=hid (KA.o.quiet (k3.quiet ka));have HQ3:=hid (ze HQ.o (k3.quiet ka));clear ka k3 p0 p1 p2 HC2 HQ KA;generalize w3.alloc (.cells #[int i64 0,int i64 0,int i64 0,int i64 0,int i64 0,.slice none 0 0] 54)=W3 at *;have p0:=zd HQ3.o 0;have p1:=zd HQ3.o 1;have p2:=zd HQ3.o 2;obtain ⟨l4,l2,lc,n1,n2,n3,n4⟩:=CS.o _ HK3.o;have kz:=zc.alloc [] W3 (.cells #[.slice none 0 0,int i64 0,int i64 0,int i64 0,int i64 0] 57);have t0:=za kz p0;have t1:=za kz p1;have t4:=za kz l4;have t2:=za kz l2;have tc:=za kz lc;have s1:=za kz n1;have s2:=za kz n2;have s3:=za kz n3;have s4:=za kz n4;clear kz;go_upto_region 4 with fail
  go_region
  clear t0 t1 t2 t4 tc s1 s2 s3 s4;go_upto_region 5 with fail;have hu:((W3.alloc (.cells #[.slice ca x.code.length ccp,int i64 x.fin,int i64 x.reg,int i64 x.to,int i64 x.els] 57)).drew).heap[W3.heap.size]? = some (.cells #[.slice ca x.code.length ccp,int i64 x.fin,int i64 x.reg,int i64 x.to,int i64 x.els] 57 (0,0)):=zh W3 _;have kk:zc [] W3 ((W3.alloc (.cells #[.slice ca x.code.length ccp,int i64 x.fin,int i64 x.reg,int i64 x.to,int i64 x.els] 57)).drew):=(zc.alloc [] _ _).quiet (zc.drew [] _);have HQ4:=hid (ze HQ3.o kk);have HK4:=hid (HK3.o.quiet kk);generalize (W3.alloc (.cells #[.slice ca x.code.length ccp,int i64 x.fin,int i64 x.reg,int i64 x.to,int i64 x.els] 57)).drew=W4 at *;generalize W3.heap.size=u at *;clear kk HQ3 HK3 p0 p1 p2 l4 l2 lc n1 n2 n3 n4 CS;have r2:=zd HQ4.o 2;have z0:=zd hu 0;have z1:=zd hu 1;have z2:=zd hu 2;by_cases f2:x.fin=2
  ·rw[if_pos (.inl f2)] at HRL
   rw[f2] at z1;clear f2;go_wp2_with fail;go_ret;rw[HRL.o];exact ⟨_,_,rfl,zat _ _ rfl _,HK4.o.quiet (zc.alloc [] _ _)⟩
  by_cases f3:x.fin=3
  ·rw[if_pos (.inr f3)] at HRL
   rw[f3] at z1;clear f2 f3;go_wp2_with fail;go_ret;rw[HRL.o];exact ⟨_,_,rfl,zat _ _ rfl _,HK4.o.quiet (zc.alloc [] _ _)⟩
  rw[if_neg (fun h=>h.elim f2 f3)] at HRL;have o2:(x.fin == 2)=false:=by simpa using f2
  have o3:(x.fin == 3)=false:=by simpa using f3
  clear f2 f3;go_wp2_with fail;go_ret;rw[HRL.o];exact ⟨none,0,rfl,.inl rfl,HK4.o⟩
def bkF(f m:Nat):List (Nat × Nat × Nat):=(List.range m).map fun b=>(f,b,0)
def bkP(P:Pr8)(k:Nat):List (Nat × Nat × Nat):=(List.range k).flatMap fun f=>bkF f (zf P f).blocks.length
def bks(P:Pr8):List (Nat × Nat × Nat):=bkP P P.funcs.length
def jq(P:Pr8)(q:Nat × Nat × Nat):Bool:= !rch (zy (zf P q.1)) [0] q.2.1
theorem JC(f m:Nat):bkF f (m+1)=bkF f m ++ [(f,m,0)]:=by unfold bkF;rw[List.range_succ,List.map_append];rfl
theorem JB(P:Pr8)(k:Nat):bkP P (k+1)=bkP P k ++ bkF k (zf P k).blocks.length:=by unfold bkP;rw[List.range_succ,List.flatMap_append,List.flatMap_singleton]
theorem zbL(f:Nat):∀ {b m:Nat},b<m→∃ r,bkF f m=bkF f b ++ ((f,b,0) :: r)
 | b,0,h=>absurd h (Nat.not_lt_zero _)
 | b,m+1,h=>by
  by_cases e:b=m
  ·subst e
   exact ⟨[],by rw[JC]⟩
  ·obtain ⟨r,hr⟩:=zbL f (b:=b) (m:=m) (by omega)
   exact ⟨r ++ [(f,m,0)],by rw[JC,hr];simp⟩
theorem zfa(P:Pr8):∀ {f m:Nat},f<m→∃ r,bkP P m=bkP P f ++ (bkF f (zf P f).blocks.length ++ r)
 | f,0,h=>absurd h (Nat.not_lt_zero _)
 | f,m+1,h=>by
  by_cases e:f=m
  ·subst e
   exact ⟨[],by rw[JB,List.append_nil]⟩
  ·obtain ⟨r,hr⟩:=zfa P (f:=f) (m:=m) (by omega)
   exact ⟨r ++ bkF m (zf P m).blocks.length,by rw[JB,hr];simp[List.append_assoc]⟩
theorem zjw(hf:f<P.funcs.length)(hb:b<(zf P f).blocks.length)(hw:ZK (jq P) (bkP P f ++ bkF f b))(h:jq P (f,b,0)=true):(bks P).find? (jq P)=some (f,b,0):=by
 obtain ⟨r1,h1⟩:=zfa P hf;obtain ⟨r2,h2⟩:=zbL f hb;have e:bks P=(bkP P f ++ bkF f b) ++ (f,b,0) :: (r2 ++ r1):=by
  unfold bks;rw[h1,h2];simp[List.append_assoc]
 rw[e,List.find?_append,List.find?_eq_none.2 (fun q hq=>by simp[hw q hq]),List.find?_cons_of_pos h];rfl
theorem zdi(hw:ZK (jq P) (bkP P P.funcs.length)):(bks P).find? (jq P)=none:=List.find?_eq_none.2 fun q hq=>by simp[hw q hq]
theorem ZK.one{B:Nat × Nat × Nat→Bool}{q:Nat × Nat × Nat}(h:B q=false):ZK B [q]:=fun x hx=>by rw[List.mem_singleton.1 hx];exact h
theorem Rt.ends(h:Rt P)(hf:f<P.funcs.length):zf9 (zf P f):=by
 intro b hb;have h1:=zaR h.nm (f:=f) (b:=b) (i:=(zr (zf P f) b).code.length) ⟨hf,hb,Nat.le_refl _⟩;rw[QT] at h1;unfold qH at h1;refine ⟨fun e=> ?_,fun e=> ?_⟩
 ·rcases e with e | e
  ·rw[e,if_pos rfl,Bool.and_eq_true,Bool.and_eq_true] at h1
   exact h1.2.1
  ·rw[e,if_neg (by decide),if_pos rfl,Bool.and_eq_true,Bool.and_eq_true] at h1
   exact h1.2.1
 ·rw[e,if_neg (by decide),if_pos rfl,Bool.and_eq_true,Bool.and_eq_true] at h1
  exact h1.2.2
end Go.Proofs.YthflgjkmbakedaaGreatDoor
