import Derived.Test.YtkgoimokgbdgfaaGreatDoorV24
import Derived.Test.YtkgoimokgbdgfaaGreatDoorV28
import Derived.Test.YtkgoimokgbdgfaaGreatDoorV33

namespace Go.Proofs.YtkgoimokgbdgfaaGreatDoor
open Go.RowKit
open Go.Value (int pointer agg)
open Go.IntKind (i64)
set_option maxRecDepth 20000
set_option maxHeartbeats 8000000
variable {P:Pr8}{b f i k pb po r:Nat}{v:Value}{w:World}{y:Int}
theorem zky(P:Pr8)(f b i:Nat):(JZ P f b i).length≤2:=by
 unfold JZ;split
 ·simp
 ·unfold JN
  rw[List.length_map];refine Nat.le_trans (List.length_filter_le _ _) ?_;unfold zcM
  repeat' split
  all_goals simp
theorem zjx(h:PrC w pb po P)(hs:Sm8 P)(hp:J1 P f b i)(hsg:inB (zg P f).sig P.sigs.length=true)(hr:r<5000)
  (hnx:∀ (w':World) (b i:Nat),PrC w' pb po P→J1 P f b i→Calls Tryz.prog 131 #[pointer (some ⟨pb,po,none⟩),ptV f b i] w' (zdS w' P f b i)):
  Calls Tryz.prog 79 #[pointer (some ⟨pb,po,none⟩),int i64 (f:Int),int i64 (r:Int),ptV f b i] w fun e w'=>e=.returned (.bool (ZX P f r b i))∧zc [] w w':=by
 have hf:=hp.1;have hb6:(zg P f).blocks.length≤600:=Nat.le_trans (hs.bk f hf) (by decide);have hb0:0<(zg P f).blocks.length:=by have:=hp.2.1;omega
 obtain ⟨sa,sp,c1,r1,_⟩:=h.c1;obtain ⟨fa,fcp,H⟩:=h.fns;have h4:=H.cell;obtain ⟨fb,fo,rfl,hfu0⟩:=H.rows.at (zh (d:=⟨0,[],[]⟩) hf);have hfu:FuC w fb (fo+f * 3) (zg P f):=hfu0;have c0:=hfu.c0.1;have HFB:Box (ZX P f r b i=(decide (zgM P (zg P f)≤r) && frB P f r b i)):=hid rfl;have hparN:zgM P (zg P f)=(P.sigs.getD (zg P f).sig.toNat ([],0,0)).1.length:=by unfold zgM;rw[if_pos hsg]
 rw[hparN] at HFB;have hh:=zq.1 hsg;obtain ⟨s,hs'⟩:∃ s:Nat,(zg P f).sig=(s:Int):=⟨(zg P f).sig.toNat,by omega⟩;rw[hs'] at c0 hh HFB;rw[Int.toNat_natCast] at HFB;obtain ⟨sb,so,rfl,hsgc⟩:=r1.at (j:=s) (y:=P.sigs.getD s ([],0,0)) (zh (by omega));obtain ⟨ta,tp,ct,_⟩:=hsgc.c0;have hl:=hh.2;have hf':(f:Int)<(P.funcs.length:Int):=by omega
 have ka:=zc.alloc [] w (.cells #[int i64 (f:Int),int i64 (b:Int),int i64 (i:Int)] 55);have hnew:=zf w (.cells #[int i64 (f:Int),int i64 (b:Int),int i64 (i:Int)] 55);have HCO:Box (∀ (w':World) (b i:Nat),zc [] w w'→J1 P f b i→Calls Tryz.prog 74 #[pointer (some ⟨pb,po,none⟩),ptV f b i] w' (QO w' P f b i)):=hid fun w' b i k hp=>zcB (PrC.stays _ _ _ _ _ k h) hs f b i hp;have HNX:Box (∀ (w':World) (b i:Nat),zc [] w w'→J1 P f b i→Calls Tryz.prog 131 #[pointer (some ⟨pb,po,none⟩),ptV f b i] w' (zdS w' P f b i)):=hid fun w' b i k hp=>hnx w' b i (PrC.stays _ _ _ _ _ k h) hp;have HS0:Box (FrS P f r b i [(f,0,0)] 0):=hid (FrS.begin hf hb6 hb0);have HP:=hid hp;have HPT:Box (∀ (S:List (Nat × Nat × Nat)) k,FrS P f r b i S k→S.length≤150):=hid fun S k h=>Nat.le_trans h.len hs.pt;have HNO:Box (∀ (S:List (Nat × Nat × Nat)) k,FrS P f r b i S k→S.drop k=[]→frB P f r b i=false):=hid fun S k h h2=>FrS.none hr hb6 hp h h2;have HAD:Box (∀ (S:List (Nat × Nat × Nat)) k q m x,FrM P f r b i S k q m→m<(JZ P f q.2.1 q.2.2).length→(JZ P f q.2.1 q.2.2).getD m (0,0,0)=x→x ∉ S→FrM P f r b i (S ++ [x]) k q (m+1)):=hid fun S k q m x h1 h2 h3 h4=>FrM.add hr hb6 hb0 h1 h2 h3 h4;have g1:=za ka c1;have g4:=za ka h4;have g0:=za ka c0;have gt:=za ka ct;have HKA:=hid ka;have HB:=hid hnew;unfold ptV;clear hb6 hb0 c1 r1 H h4 hfu hfu0 c0 hparN hsgc ct ka hnew hsg hh hs' h hs hp hnx;generalize (P.sigs.getD s ([],0,0)).1.length=T at *;generalize P.funcs.length=NF at *;generalize P.sigs.length=NS at *;go_enter Tryz.func79,Tryz.ntmps79;go_upto_region 1 with fail;generalize hbx:w.heap.size=bx at *;generalize w.alloc (.cells #[int i64 (f:Int),int i64 (b:Int),int i64 (i:Int)] 55)=W at *;by_cases hrT:r<T
 ·have hrT':(r:Int)<(T:Int):=by omega
  have HV:Box (ZX P f r b i=false):=hid (by rw[HFB.o,decide_eq_false (by omega)];rfl);go_quiet (fail);go_wp2;go_ret;exact ⟨by rw[HV.o];rfl,HKA.o.quiet (zc.drewN [] _ _)⟩
 ·have hrT':¬ (r:Int)<(T:Int):=by omega
  rw[decide_eq_true (by omega:T≤r),Bool.true_and] at HFB;have HWB:Box (∀ w',zc [] W w'→w'.cell? ⟨bx,1,none⟩=some (int i64 (b:Int))∧w'.cell? ⟨bx,2,none⟩=some (int i64 (i:Int))):=hid fun w' k=>⟨za k (zd HB.o 1),za k (zd HB.o 2)⟩;go_quiet (fail);have KQ:=zc.drewN [] W nq;generalize W.drewN nq=W1 at *;obtain ⟨w2,hput,hseen,hk2⟩:=(Ju.made W1).put ((f:Int),0,0) (by simp);have hput':(Instr.mapUpdate 191 (.map (some W1.heap.size)) (agg #[int i64 (f:Int),int i64 0,int i64 0]) (.bool true)).run Tryz.prog (W1.alloc (.map #[] 0))=.ok () w2:=hput;have hmk:∀ w,(Instr.makeMap 191 none).run Tryz.prog w=.ok (.map (some w.heap.size)) (w.alloc (.map #[] 0)):=fun w=>by kernel_rfl
  clear hput g1 g4 g0 gt hl hf' hrT hrT';go_upto_region 4 with fail;obtain ⟨M,hM⟩:∃ M,W1.heap.size=M:=⟨_,rfl⟩;rw[hM] at hseen hk2 ⊢;have HWM:Box (W.heap.size≤M):=hid (by rw[← hM];exact KQ.size);have hM2:M<w2.heap.size:=hseen.lt;have HQ0:Box (FQ W (w2.alloc (.cells #[int i64 (f:Int),int i64 0,int i64 0] 55)) M (.slice (some ⟨w2.heap.size,0,none⟩) 1 1) [(f,0,0)] 0):=hid
   ⟨hseen.kept (zc.alloc [] _ _) (by simp),zim w2 (M+1) (f:Int) 0 0 hM2,((KQ.quiet (zc.alloc [] W1 (.map #[] 0))).fresh hk2 (fun x hx=>by have:=KQ.size;simp at hx;omega)).quiet (zc.alloc [] _ _)⟩
  clear hput' hseen hk2 KQ hM2;go_wp2_with fail;go_upto_region 5 with fail;generalize w2.alloc (.cells #[int i64 (f:Int),int i64 0,int i64 0] 55)=W3 at *;generalize Value.slice (some ⟨w2.heap.size,0,none⟩) 1 1=v0 at *;clear hM hmk
  go_loopg [10] 151 (fun gq lv wr=>∃ (S:List (Nat × Nat × Nat)) (k:Nat) (v:Value),v=lv∧k+gq=151∧Box (FrS P f r b i S k)∧Box (FQ W wr M v S k))
  case atStart=>exact ⟨[(f,0,0)],0,v0,rfl,rfl,HS0,HQ0⟩
  case round=>
   clear HS0 HQ0;obtain ⟨S,k,v,rfl,hgk,HF,HQ⟩:=hrel;obtain ⟨l,hl⟩:∃ l,S.drop k=l:=⟨_,rfl⟩;have HL:Box (ZQ wr (M+1) v (l.map ptI)):=hid (by have:=HQ.o.line;rw[hl] at this;exact this);cases l with
   | nil=>
    have HV:Box (ZX P f r b i=false):=hid (by rw[HFB.o];exact HNO.o S k HF.o hl);obtain ⟨g,off,cap,rfl, -⟩:=HL.o.val;clear hl;go_wp2;go_ret;exact ⟨by rw[HV.o];rfl,HKA.o.quiet HQ.o.keep⟩
   | cons q l=>
    obtain ⟨hq,hdr⟩:=ziI hl;obtain ⟨q1,bq,iq⟩:=q;obtain ⟨hq1,hqp,hqf⟩:=HF.o.good _ (List.mem_of_getElem? hq);simp only at hq1 hqp hqf;have hq1':=hq1.symm;subst hq1';obtain ⟨g,off,cap,rfl,hcc0,hmx,d0,d1,d2,hgt,heq⟩:=ZQ.first (q:=ptI (f,bq,iq)) HL.o;have d0':wr.cell? ⟨g,off,none⟩=some (int i64 (f:Int)):=d0;have d1':wr.cell? ⟨g,off+1,none⟩=some (int i64 (bq:Int)):=d1;have d2':wr.cell? ⟨g,off+2,none⟩=some (int i64 (iq:Int)):=d2;have hlc:l.length+1≤cap:=by
     obtain ⟨g',off',cap',e,_,_,_,h9⟩:=HL.o.val;simp only[List.length_cons,List.length_map] at h9;cases e;exact h9
    have hMid:∃ v2,ZQ wr (M+1) v2 (l.map ptI)∧(cap=1→l.length=0∧v2=.slice (some ⟨g,off,none⟩) 0 0)∧(cap≠1→v2=.slice (some ⟨g,off+3,none⟩) l.length (cap - 1)):=by
     by_cases hc:cap=1
     ·obtain ⟨h8,h9⟩:=heq hc
      have hle:l=[]:=List.map_eq_nil_iff.1 h8;subst hle;exact ⟨_,h9,fun _=>⟨rfl,rfl⟩,fun h=>absurd hc h⟩
     ·have:=hgt (by omega)
      rw[List.length_map] at this;exact ⟨_,this,fun h=>absurd h hc,fun _=>rfl⟩
    obtain ⟨v2,hw2,hv1,hv2⟩:=hMid;have hkl:k<S.length:=(List.getElem?_eq_some_iff.1 hq).1;have k5:=zc.alloc [] wr (.cells #[int i64 (f:Int),int i64 (bq:Int),int i64 (iq:Int)] 55);have HQ5:Box (FQ W (wr.alloc (.cells #[int i64 (f:Int),int i64 (bq:Int),int i64 (iq:Int)] 55)) M v2 S (k+1)):=hid (FQ.quiet ⟨HQ.o.seen,by rw[hdr];exact hw2,HQ.o.keep⟩ k5);have HBQ:=hid (zf wr (.cells #[int i64 (f:Int),int i64 (bq:Int),int i64 (iq:Int)] 55));have HAT:=hid hq;have HQP:=hid hqp;have HLE:Box (k+1≤S.length):=hid hkl;have hS:=HPT.o S k HF.o;have hkg:k+1≤150:=by omega
    rw[List.length_map];obtain ⟨ll,hll⟩:∃ ll,l.length=ll:=⟨_,rfl⟩;rw[hll] at hlc hv1 hv2 ⊢;have hl1:(1:Int)≤((ll+1:Nat):Int):=by omega
    have hcc:(1:Int)≤(cap:Int):=by omega
    clear hw2 HL HQ d0 d1 d2 hgt heq k5 hdr hl hq hqp hqf hkl hll;go_upto_region 7 with fail;generalize wr.alloc (.cells #[int i64 (f:Int),int i64 (bq:Int),int i64 (iq:Int)] 55)=W5 at *;generalize wr.heap.size=qb at *
    go_cut [10] (fun t10 wz=>t10=v2∧wz=W5)
    case first=>
     by_cases hc1:cap=1
     ·subst hc1
      obtain ⟨hl0,hv3⟩:=hv1 rfl;subst hl0;subst hv3;clear hv1 hv2;go_wp2_with fail;go_meet;exact ⟨rfl,rfl⟩
     ·have hv3:=hv2 hc1
      subst hv3;clear hv1 hv2;go_wp2_with fail;go_meet;exact ⟨rfl,rfl⟩
    case rest=>
     obtain ⟨hv10,hwz⟩:=hcut;subst hv10;have hwz':=hwz.symm;subst hwz';obtain ⟨e1,e2⟩:=HWB.o _ HQ5.o.keep;have b0:=zd HBQ.o 0;have b1:=zd HBQ.o 1;have b2:=zd HBQ.o 2;clear d0' d1' d2' hlc hl1 hcc hmx hv1 hv2 hwz;go_upto_region 8 with fail
     go_cut [62] (fun t62 wz=>t62=.bool (decide (bq=b∧iq=i))∧wz=W5)
     case first=>
      by_cases eb:bq=b
      ·subst eb
       by_cases ei:iq=i
       ·subst ei
        go_wp2_with fail;go_meet;exact ⟨by simp,rfl⟩
       ·have o2:((iq:Int) == (i:Int))=false:=by simpa using (fun h=>ei (by omega))
        have HD:Box (decide (bq=bq∧iq=i)=false):=hid (by simp[ei]);clear ei;go_wp2_with fail;go_meet;exact ⟨by rw[HD.o],rfl⟩
      ·have o2:((bq:Int) == (b:Int))=false:=by simpa using (fun h=>eb (by omega))
       have HD:Box (decide (bq=b∧iq=i)=false):=hid (by simp[eb]);clear eb;go_wp2_with fail;go_meet;exact ⟨by rw[HD.o],rfl⟩
     case rest=>
      obtain ⟨rfl,hwz⟩:=hcut;have hwz':=hwz.symm;subst hwz';clear hwz;by_cases hqe:bq=b∧iq=i
      ·obtain ⟨eb,ei⟩:=hqe
       subst eb;subst ei;have HV:Box (ZX P f r bq iq=true):=hid (by rw[HFB.o];exact HF.o.yes HAT.o);go_wp2_with fail;go_ret;exact ⟨by rw[HV.o];rfl,HKA.o.quiet HQ5.o.keep⟩
      ·have HNE:Box (((f,bq,iq):Nat × Nat × Nat)≠(f,b,i)):=hid (fun e=>hqe (by simpa using e))
       rw[decide_eq_false hqe];clear hqe e1 e2;have HC1:=hid (HCO.o W5 bq iq (HKA.o.quiet HQ5.o.keep) HQP.o);unfold ptV at HC1;go_upto_region 11 with (go_at_call 74;refine HC1.o.mono ?_;intro e w6 h6;obtain ⟨x,ok,ar,rfl,k6,⟨aa,an,ac,rfl⟩,hda⟩:=zhX h6;unfold zD)
       have ka:=zc.alloc [] w6 (.cells #[int i64 x.op,int i64 x.dst,int i64 x.a,int i64 x.b,int i64 x.n,.slice aa an ac] 39);have hci:=zf w6 (.cells #[int i64 x.op,int i64 x.dst,int i64 x.a,int i64 x.b,int i64 x.n,.slice aa an ac] 39);have HQ6:=hid (HQ5.o.quiet (k6.quiet ka));have HB6:Box (∀ w',zc [] (w6.alloc (.cells #[int i64 x.op,int i64 x.dst,int i64 x.a,int i64 x.b,int i64 x.n,.slice aa an ac] 39)) w'→w'.cell? ⟨qb,0,none⟩=some (int i64 (f:Int))∧w'.cell? ⟨qb,1,none⟩=some (int i64 (bq:Int))∧w'.cell? ⟨qb,2,none⟩=some (int i64 (iq:Int))):=hid fun w' k'=>⟨za ((k6.quiet ka).quiet k') b0,za ((k6.quiet ka).quiet k') b1,za ((k6.quiet ka).quiet k') b2⟩;have HDA:=hid (hda r);have i0:=zd hci 0;have i1:=zd hci 1;have i2:=zd hci 2;have i3:=zd hci 3;have i4:=zd hci 4;have i5:=zd hci 5;clear ka hci k6 h6 hda HQ5 b0 b1 b2 HBQ HC1;generalize w6.alloc (.cells #[int i64 x.op,int i64 x.dst,int i64 x.a,int i64 x.b,int i64 x.n,.slice aa an ac] 39)=W6 at *;generalize w6.heap.size=cb at *;have HD1:=hid (zc9 x (.slice aa an ac) W6);unfold zD J6 at HD1;go_upto_region 12 with (go_at_call 127;refine HD1.o.mono ?_;rintro e w7 ⟨rfl,k7⟩)
       have HQ7:=hid (HQ6.o.quiet k7);have HB7:Box (∀ w',zc [] w7 w'→w'.cell? ⟨qb,0,none⟩=some (int i64 (f:Int))∧w'.cell? ⟨qb,1,none⟩=some (int i64 (bq:Int))∧w'.cell? ⟨qb,2,none⟩=some (int i64 (iq:Int))):=hid fun w' k'=>HB6.o w' (k7.quiet k');clear HQ6 HB6 k7 HD1 i0 i1 i2 i3 i4 i5
       have HDB:Box (JD P f r bq iq=(ok && (zP x && decide ((if zP x=true then x.dst else 0)=(r:Int))))):=hid (by
        rw[HDA.o];unfold za7;cases zP x with
        | false=>simp
        | true=>rw[if_pos rfl])
       clear HDA;generalize (if zP x=true then x.dst else 0)=dd at *;generalize zP x=df at *
       go_cut [82] (fun t82 wz=>t82=.bool (JD P f r bq iq)∧wz=w7)
       case first=>
        cases ok with
        | false=>
         rw[Bool.false_and] at HDB;go_wp2_with fail;go_meet;exact ⟨by rw[HDB.o],rfl⟩
        | true=>
         cases df with
         | false=>
          rw[Bool.false_and,Bool.and_false] at HDB;go_wp2_with fail;go_meet;exact ⟨by rw[HDB.o],rfl⟩
         | true=>
          rw[Bool.true_and,Bool.true_and] at HDB;by_cases edr:dd=(r:Int)
          ·rw[decide_eq_true edr] at HDB
           have o2:(dd == (r:Int))=true:=by simpa using edr
           clear edr;go_wp2_with fail;go_meet;exact ⟨by rw[HDB.o],rfl⟩
          ·rw[decide_eq_false edr] at HDB
           have o2:(dd == (r:Int))=false:=by simpa using edr
           clear edr;go_wp2_with fail;go_meet;exact ⟨by rw[HDB.o],rfl⟩
       case rest=>
        obtain ⟨rfl,hwz⟩:=hcut;have hwz':=hwz.symm;subst hwz';clear hwz HDB;cases hdf:JD P f r bq iq with
        | true=>
         have HF2:=hid (HF.o.pass HAT.o HNE.o hdf);clear hdf;go_wp2_with fail
         go_roundg (gk - 1)
         case measure=>omega
         case rel=>exact ⟨S,k+1,_,rfl,by omega,HF2,HQ7⟩
        | false=>
         have HM0:Box (FrM P f r b i S k (f,bq,iq) 0):=hid ⟨HF.o,HAT.o,HNE.o,hdf,fun y hy=>by simp at hy⟩;clear hdf;have HN1:=hid (HNX.o w7 bq iq (HKA.o.quiet HQ7.o.keep) HQP.o);unfold ptV at HN1;obtain ⟨b0,b1,b2⟩:=HB7.o _ (zc.refl _ _);go_upto_region 14 with (go_at_call 131;refine HN1.o.mono ?_;rintro e w8 ⟨na,ncp,rfl,hrows,k8,hnew8⟩)
         have HX0:=hid (NX.begin (lv:=u10) hrows hnew8 HQ7.o.seen.lt (fun x hx=>(HQ7.o.own x hx).2));have HQ8:=hid (HQ7.o.quiet k8);have HGO:Box (∀ (S:List (Nat × Nat × Nat)) m x,FrM P f r b i S k (f,bq,iq) m→m<(JZ P f bq iq).length→(JZ P f bq iq).getD m (0,0,0)=x→x∈S→FrM P f r b i S k (f,bq,iq) (m+1)):=hid fun S m x h1 h2 h3 h4=>h1.go h2 h3 h4;have HAA:Box (∀ (S:List (Nat × Nat × Nat)) m x,FrM P f r b i S k (f,bq,iq) m→m<(JZ P f bq iq).length→(JZ P f bq iq).getD m (0,0,0)=x→x ∉ S→FrM P f r b i (S ++ [x]) k (f,bq,iq) (m+1)):=hid fun S m x h1 h2 h3 h4=>HAD.o S k (f,bq,iq) m x h1 h2 h3 h4;have HEN:Box (∀ (S:List (Nat × Nat × Nat)) m,FrM P f r b i S k (f,bq,iq) m→(JZ P f bq iq).length≤m→FrS P f r b i S (k+1)):=hid fun S m h1 h2=>h1.end h2;have HML:Box (∀ (S:List (Nat × Nat × Nat)) m,FrM P f r b i S k (f,bq,iq) m→k+1≤S.length∧S.length≤150):=hid fun S m h1=>⟨(List.getElem?_eq_some_iff.1 h1.at').1,HPT.o S k h1.base⟩;have hnl:=zky P f bq iq;generalize JZ P f bq iq=L at *;obtain ⟨nl,hnle⟩:∃ nl,L.length=nl:=⟨_,rfl⟩;have HNL:=hid hnle;rw[hnle] at hnl ⊢;clear hrows k8 hnew8 HN1 b0 b1 b2 HB7 HQ7 hnle HF HAT HNE HLE;go_wp2_with fail
         go_loopw [10,17] (fun lv kv wr2=>∃ (S':List (Nat × Nat × Nat)) (v':Value) (m:Nat),v'=lv∧kv=int i64 (m:Int)∧m≤nl∧Box (FrM P f r b i S' k (f,bq,iq) m)∧Box (FQ W wr2 M v' S' (k+1))∧Box (NX wr2 M v' na L)) (fun _ kv _=>nl - (intOf kv).toNat)
         case atStart=>exact ⟨S,_,0,rfl,rfl,by omega,HM0,HQ8,HX0⟩
         case round=>
          clear HM0 HQ8 HX0;obtain ⟨S',v',m,rfl,rfl,hm,HFM,HQ,HX⟩:=hrel;by_cases hlt:m<nl
          ·have hlt':(m:Int)<(nl:Int):=by omega
           have hlt2:m<L.length:=by rw[HNL.o];exact hlt
           obtain ⟨x,hx⟩:∃ x,L.getD m (0,0,0)=x:=⟨_,rfl⟩;have hxg:L[m]? = some x:=by rw[← hx];exact zh hlt2
           obtain ⟨ng,no,rfl,hpc⟩:=HX.o.at hxg;obtain ⟨xf,xb,xi⟩:=x;have z0:=hpc.c0;have z1:=hpc.c1;have z2:=hpc.c2;simp only at z0 z1 z2;have hlk:=HQ.o.seen.look (ptI (xf,xb,xi));have hlk':(Instr.lookup 191 (.map (some M)) (agg #[int i64 (xf:Int),int i64 (xb:Int),int i64 (xi:Int)]) false).run Tryz.prog wr=.ok (.bool (decide (ptI (xf,xb,xi)∈S'.map ptI))) wr:=hlk;clear hlk hpc;by_cases hin:(xf,xb,xi)∈S'
           ·have HF2:=hid (HGO.o S' m _ HFM.o hlt2 hx hin)
            rw[decide_eq_true (zgX.2 hin)] at hlk';clear hin hxg hx hlt2;go_wp2_with fail;go_roundw
            case rel=>exact ⟨S',v',m+1,rfl,by go_num,by omega,HF2,HQ,HX⟩
            case measure=>simp[intOf];omega
           ·have HF2:=hid (HAA.o S' m _ HFM.o hlt2 hx hin)
            have hni:ptI (xf,xb,xi) ∉ S'.map ptI:=fun h=>hin (zgX.1 h);rw[decide_eq_false hni] at hlk';obtain ⟨w3,hput,hseen3,k3⟩:=HQ.o.seen.put (ptI (xf,xb,xi)) hni;have hput':(Instr.mapUpdate 191 (.map (some M)) (agg #[int i64 (xf:Int),int i64 (xb:Int),int i64 (xi:Int)]) (.bool true)).run Tryz.prog wr=.ok () w3:=hput;have HX3:=hid (HX.o.put k3);have HS3:=hid hseen3;have HK3:=hid k3;obtain ⟨ng',no',e9,hpc3⟩:=HX3.o.at hxg;simp only[Option.some.injEq,Addr.mk.injEq,and_true] at e9;obtain ⟨e8,e9⟩:=e9;subst e8;subst e9;have y0:=hpc3.c0;have y1:=hpc3.c1;have y2:=hpc3.c2;simp only at y0 y1 y2;have HML':=HML.o S' m HFM.o;have hml2:S'.length≤150:=HML'.2;have hln:(S'.drop (k+1)).length<1000000:=by rw[List.length_drop];omega
            have HLN:Box (((S'.drop (k+1)).map ptI).length<1000000):=hid (by rw[List.length_map];exact hln);have HL3:Box (ZQ w3 (M+1) v' ((S'.drop (k+1)).map ptI)):=hid (HQ.o.line.kept k3 (fun x hx=>by have:=HQ.o.own x hx;simp;omega));have HMW:Box (M+1≤w3.heap.size):=hid hseen3.lt
            have HN3:Box (∀ j u,(pc ((xf:Int),(xb:Int),(xi:Int)))[j]? = some u→(w3.alloc (.cells #[int i64 (xf:Int),int i64 (xb:Int),int i64 (xi:Int)] 55)).cell? ((⟨w3.heap.size,0,none⟩:Addr).add j)=some u):=hid (fun j u hu=>by
             have hnw:=zf w3 (.cells #[int i64 (xf:Int),int i64 (xb:Int),int i64 (xi:Int)] 55);rw[Addr.add_lit,zd hnw (0+j),Nat.zero_add];rw[← hu];unfold pc
             match j with
             | 0=>rfl
             | 1=>rfl
             | 2=>rfl
             | j+3=>rfl)
            clear hput hseen3 k3 hin hni hxg hx hlt2 hpc3 hln;have hkl:k+1≤S'.length:=HML'.1;have HKL:=hid hkl;clear hkl HML' hml2;go_upto_region 19 with fail;clear z0 z1 z2 hlk' hput';obtain ⟨g5,off5,cap5,hv5, -⟩:=HL3.o.val;subst hv5;go_wp2_with (at_builtin;go_must (refine zaw _ rfl _ _ rfl (M+1) (Nat.le_trans HMW.o (by simp)) ((S'.drop (k+1)).map ptI) ((xf:Int),(xb:Int),(xi:Int)) _ rfl (HL3.o.kept (zc.alloc [] _ _) (fun _ _=>by simp)) ⟨w3.heap.size,0,none⟩ 1 rfl HN3.o HLN.o ?_;intro v6 w6 hl6 k6 hat6));have HQ9:=hid (HQ.o.add HWM.o HKL.o HS3.o HK3.o (zc.alloc [] w3 (.cells #[int i64 (xf:Int),int i64 (xb:Int),int i64 (xi:Int)] 55)) hl6 k6);have HX9:=hid ((HX3.o.quiet (zc.alloc [] w3 (.cells #[int i64 (xf:Int),int i64 (xb:Int),int i64 (xi:Int)] 55))).push k6 hat6);clear hl6 k6 hat6;go_roundw
            case rel=>exact ⟨_,v6,m+1,rfl,by go_num,by omega,HF2,HQ9,HX9⟩
            case measure=>simp[intOf];omega
          ·obtain rfl:m=nl:=by omega
           have HF2:=hid (HEN.o S' m HFM.o (by rw[HNL.o];exact Nat.le_refl _));go_wp2_with fail
           go_roundg (gk - 1)
           case measure=>omega
           case rel=>exact ⟨S',k+1,v',rfl,by omega,HF2,HQ⟩
theorem ziQ(h:PrC w pb po P)(hs:Sm8 P)(hp:J1 P f b i)(hsg:inB (zg P f).sig P.sigs.length=true)(hr:r<5000):
  Calls Tryz.prog 79 #[pointer (some ⟨pb,po,none⟩),int i64 (f:Int),int i64 (r:Int),ptV f b i] w fun e w'=>e=.returned (.bool (ZX P f r b i))∧zc [] w w':=
 zjx h hs hp hsg hr (fun _ b i h hp=>ziO h hs f b i hp)
def Jq(o:Option (Nat × Nat × Nat))(w:World)(e:Ending)(w':World):Prop:=match o with
 | none=>e=.returned (.tuple #[agg #[int i64 (-1),int i64 0,int i64 0],.bool true])∧zc [] w w'
 | some q=>e=.returned (.tuple #[agg #[int i64 (q.1:Int),int i64 (q.2.1:Int),int i64 (q.2.2:Int)],.bool false])∧zc [] w w'
theorem Jq.yes{o:Option (Nat × Nat × Nat)}{w':World}(h:o=none)(k:zc [] w w'):Jq o w (.returned (.tuple #[agg #[int i64 (-1),int i64 0,int i64 0],.bool true])) w':=by subst h;exact ⟨rfl,k⟩
theorem Jq.no{o:Option (Nat × Nat × Nat)}{w':World}(h:o=some (f,b,i))(k:zc [] w w'):Jq o w (.returned (.tuple #[agg #[int i64 (f:Int),int i64 (b:Int),int i64 (i:Int)],.bool false])) w':=by subst h;exact ⟨rfl,k⟩
theorem zke{g:List (List Nat)}(hg:Ok g){s:Nat→Bool}(h:∀ u,s u=true ↔ ∃ z,z∈Jj g.length [0]∧Pth g (avI (-1)) z u):s=rch g [0]:=by
 funext u
 rw[Bool.eq_iff_iff,h u,zeB hg];have e:avI (-1)=noS:=by
  funext m
  unfold avI noS;simp
 rw[e]
theorem zjW(w:World):zcu (w.alloc (.cells #[int i64 0] 3)) (w.alloc (.cells #[int i64 0] 3)).heap.size (some ⟨w.heap.size,0,none⟩) [0]:=by
 refine .inr ⟨w.heap.size,0,rfl,by simp,fun i hi=> ?_⟩;obtain rfl:i=0:=by simpa using hi
 rw[World.cell?_alloc_at _ _ _ _ rfl];rfl
theorem zoV(h:PrC w pb po P)(hf:f<P.funcs.length):∃ fa fcp fb fo ra rp ba bcp,w.cell? ⟨pb,po+4,none⟩=some (.slice fa P.funcs.length fcp)∧fa=some ⟨fb,fo,none⟩∧w.cell? ⟨fb,fo+f * 3,none⟩=some (int i64 (zg P f).sig)∧w.cell? ⟨fb,fo+f * 3+1,none⟩=some (.slice ra (zg P f).regs.length rp)∧w.cell? ⟨fb,fo+f * 3+2,none⟩=some (.slice ba (zg P f).blocks.length bcp)∧zy w 5 BlC ba (zg P f).blocks:=by
 obtain ⟨fa,fcp,H⟩:=h.fns;obtain ⟨fb,fo,rfl,hfu0⟩:=H.rows.at (zh (d:=⟨0,[],[]⟩) hf);have hfu:FuC w fb (fo+f * 3) (zg P f):=hfu0;obtain ⟨ra,rp,c1, -⟩:=hfu.c1;obtain ⟨ba,bcp,c2,r2, -⟩:=hfu.c2;exact ⟨_,fcp,fb,fo,ra,rp,ba,bcp,H.cell,rfl,hfu.c0.1,c1,c2,r2⟩
theorem zf9(h:PrC w pb po P)(hE:∀ f,f<P.funcs.length→zia (zg P f))(hbk:∀ f,f<P.funcs.length→(zg P f).blocks.length≤600)(hN:P.funcs.length≤1000):
  Calls Tryz.prog 37 #[pointer (some ⟨pb,po,none⟩)] w (Jq ((bks P).find? (jP P)) w):=by
 have ka:=zc.alloc [] w (.cells #[int i64 0,int i64 0,int i64 0] 55);have HN0:=hid (zf w (.cells #[int i64 0,int i64 0,int i64 0] 55));have FIN:=hid fun (W':World) (u0 u1 u2:Value) (k:zc [] (w.alloc (.cells #[int i64 0,int i64 0,int i64 0] 55)) W')=>(ka.quiet k).trans (jd W' w.heap.size u0 u1 u2) (fun x hx hl=>by simp at hx;omega);have HFV:=hid fun (f:Nat) (w':World) (k:zc [] (w.alloc (.cells #[int i64 0,int i64 0,int i64 0] 55)) w') (hf:f<P.funcs.length)=>zoV (PrC.stays _ _ _ _ _ (ka.quiet k) h) hf;have HBL:=hid fun (f:Nat) (w':World) (hf:f<P.funcs.length) (s:Int) (ra:Option Addr) (R rp:Nat) (ba:Option Addr) (bcp:Nat) (hr:zy w' 5 BlC ba (zg P f).blocks)=>zej (zg P f) s ra R rp ba bcp hr (hE f hf) (hbk f hf);have HRC:Box (∀ (f:Nat) (w':World) (a:Option Addr) (cp:Nat),f<P.funcs.length→GAt w' w'.heap.size a (zz (zg P f))→Calls Tryz.prog 76 #[.slice a (zg P f).blocks.length cp,.slice (some ⟨w'.heap.size,0,none⟩) 1 1,int i64 (-1)] (w'.alloc (.cells #[int i64 0] 3)) fun e w''=>∃ ps,e=.returned (.slice (some ⟨ps,0,none⟩) (zg P f).blocks.length (zg P f).blocks.length)∧ju w'' (w'.alloc (.cells #[int i64 0] 3)).heap.size ps (zg P f).blocks.length 4 (bw (rch (zz (zg P f)) [0]))∧zc [] w' w''):=hid fun f w' a cp hf hG=>by
  have hk:=zc.alloc [] w' (.cells #[int i64 0] 3);have:=zgF (zz (zg P f)) (jJ (hbk f hf)) a cp w'.heap.size _ (hG.quiet hk) (some ⟨w'.heap.size,0,none⟩) 1 _ [0] (zjW w') (by simp) (-1);rw[zZ] at this;refine this.mono ?_;rintro e w'' ⟨ps,rfl,s,hrow,k2,hsu⟩;have hs':=zke (jJ (hbk f hf)).ok (s:=s) (by rw[zZ];exact hsu);subst hs';exact ⟨ps,rfl,hrow,hk.quiet k2⟩
 obtain ⟨fa0,fcp0,H⟩:=h.fns;have h4:=H.cell;have C4:Box (∀ w',zc [] (w.alloc (.cells #[int i64 0,int i64 0,int i64 0] 55)) w'→w'.cell? ⟨pb,po+4,none⟩=some (.slice fa0 P.funcs.length fcp0)):=hid fun w' k=>za (ka.quiet k) h4;have HBK:=hid hbk;have HKA:=hid ka;clear h H hE hbk h4 ka;obtain ⟨N,hNe⟩:∃ N,P.funcs.length=N:=⟨_,rfl⟩;have HN:=hid hNe;rw[hNe] at HFV HBL HRC C4 hN;clear hNe;go_enter Tryz.func37,Tryz.ntmps37;go_upto_region 1 with fail;generalize hbx:w.heap.size=bx at *;generalize w.alloc (.cells #[int i64 0,int i64 0,int i64 0] 55)=W at *;clear hbx;go_wp2_with fail
 go_loopw [4] (fun i wr=>∃ f:Nat,f≤N∧i=int i64 (f:Int)∧Box (zc [] W wr)∧Box (Q1 (jP P) (bkP P f))) (fun i _=>N - (intOf i).toNat)
 case atStart=>exact ⟨0,by omega,rfl,hid (zc.refl _ _),hid (Q1.nil _)⟩
 case round=>
  obtain ⟨f,hf,rfl,HK,HW⟩:=hrel;have c4:=C4.o _ HK.o;by_cases hlt:f<N
  ·have hlt':(f:Int)<(N:Int):=by omega
   obtain ⟨fa,fcp,fb,fo,ra,rp,ba,bcp,d4,rfl,q0,q1,q2,hrows⟩:=HFV.o f wr HK.o hlt;rw[c4] at d4;simp only[Option.some.injEq,Value.slice.injEq,true_and] at d4;obtain ⟨e1,e2⟩:=d4;subst e1;subst e2;have HB1:=hid (HBL.o f wr hlt (zg P f).sig ra (zg P f).regs.length rp ba bcp hrows);have HR1:=hid fun (w':World) (a:Option Addr) (cp:Nat)=>HRC.o f w' a cp hlt;have hb6:=HBK.o f (by rw[HN.o];exact hlt);obtain ⟨n,hn⟩:∃ n,(zg P f).blocks.length=n:=⟨_,rfl⟩;have HNB:=hid hn;rw[hn] at HB1 HR1 q2 hb6;clear hn hrows;generalize (zg P f).regs.length=R at *;generalize (zg P f).sig=sg at *
   go_upto_region 5 with (first
    | (go_at_call 77;refine HB1.o.mono ?_;rintro e w1 ⟨a1,p1,rfl,g1,k1⟩)
    | (go_at_call 76;refine (HR1.o _ a1 p1 g1).mono ?_;rintro e w2 ⟨ps,rfl,hrow,k2⟩))
   have HRO:=hid hrow;have HK2:=hid ((HK.o.quiet k1).quiet k2);clear hrow k1 k2 g1 q0 q1 q2 c4 HB1 HR1 HK;generalize (w1.alloc (.cells #[int i64 0] 3)).heap.size=base at *;go_wp2_with fail
   go_loopw [6] (fun i wr=>∃ b:Nat,b≤n∧i=int i64 (b:Int)∧wr=w2∧Box (Q1 (jP P) (bkF f b))) (fun i _=>n - (intOf i).toNat)
   case atStart=>exact ⟨0,by omega,rfl,rfl,hid (Q1.nil _)⟩
   case round=>
    obtain ⟨b,hb,rfl,hwr,HWB⟩:=hrel;subst hwr;by_cases hlb:b<n
    ·have hlb':(b:Int)<(n:Int):=by omega
     have cs:=HRO.o.cell hlb;unfold bw at cs;cases hm:rch (zz (zg P f)) [0] b with
     | true=>
      rw[hm] at cs;have HWN:=hid (Q1.one (B:=jP P) (q:=(f,b,0)) (by show (!rch (zz (zg P f)) [0] b)=false;rw[hm];rfl));clear hm;go_wp2_with fail;go_roundw
      case rel=>exact ⟨b+1,by omega,by go_num,(by first | trivial | rfl),hid (by rw[zaK];exact HWB.o.app HWN.o)⟩
      case measure=>simp[intOf];omega
     | false=>
      rw[hm] at cs;have HFD:Box ((bks P).find? (jP P)=some (f,b,0)):=hid (zll (by rw[HN.o];exact hlt) (by rw[HNB.o];exact hlb) (HW.o.app HWB.o) (by show (!rch (zz (zg P f)) [0] b)=true;rw[hm];rfl));clear hm;have hb6':=ze HN0.o HK2.o;have y0:=zi hb6' 0;have y1:=zi hb6' 1;have y2:=zi hb6' 2;have x0:=zd hb6' 0;have x1:=zd hb6' 1;have x2:=zd hb6' 2;have HB6:=hid hb6';clear hb6';go_wp2_with fail;have h3:=ZC HB6.o (int i64 (f:Int)) (int i64 (b:Int)) (int i64 0);have e0:=zd h3 0;have e1:=zd h3 1;have e2:=zd h3 2;exact bodyPost_ret (v:=.tuple #[agg #[int i64 (f:Int),int i64 (b:Int),int i64 0],.bool false]) (by simp[results,Tryz.results37,go_sem,e0,e1,e2]) rfl (Jq.no HFD.o (FIN.o _ _ _ _ HK2.o))
    ·obtain rfl:b=n:=by omega
     rw[← HNB.o] at HWB;go_wp2_with fail;go_roundw
     case rel=>exact ⟨f+1,by omega,by go_num,HK2,hid (by rw[zaM];exact HW.o.app HWB.o)⟩
     case measure=>simp[intOf];omega
  ·obtain rfl:f=N:=by omega
   have HFD:Box ((bks P).find? (jP P)=none):=hid (zfy (by rw[HN.o];exact HW.o));go_wp2_with (go_at_call 13;refine (qh _).mono ?_;rintro e w6 ⟨rfl,k6⟩;have hb6:=ze HN0.o (HK.o.quiet k6);have K6:=hid (HK.o.quiet k6);have y0:=zi hb6 0;have y1:=zi hb6 1;have y2:=zi hb6 2;have x0:=zd hb6 0;have x1:=zd hb6 1;have x2:=zd hb6 2;have HB6:=hid hb6;clear hb6 k6);have h3:=ZC HB6.o (int i64 (-1)) (int i64 0) (int i64 0);have e0:=zd h3 0;have e1:=zd h3 1;have e2:=zd h3 2;exact bodyPost_ret (v:=.tuple #[agg #[int i64 (-1),int i64 0,int i64 0],.bool true]) (by simp[results,Tryz.results37,go_sem,e0,e1,e2]) rfl (Jq.yes HFD.o (FIN.o _ _ _ _ K6.o))
def znc(o:Option (Int × Int × Int × Int))(w:World)(e:Ending)(w':World):Prop:=match o with
 | none=>e=.returned .nilIface∧zc [] w w'
 | some q=>∃ p r,e=.returned (Zj p)∧zb5 w' p q.1 q.2.1 q.2.2.1 q.2.2.2 (Zj r)∧Ji w' r q.1 q.2.1 q.2.2.1 q.2.2.2∧r<p∧zc [] w w'
theorem zox(y f b i:Int)(r:Nat)(w:World):Calls Tryz.prog 60 #[int i64 y,agg #[int i64 f,int i64 b,int i64 i],Zj r] w fun e w'=>e=.returned (Zj (w.heap.size+1))∧zb5 w' (w.heap.size+1) y f b i (Zj r)∧zc [] w w':=by
 have k2:=((zc.refl [] w).step (zc.alloc [] w (.cells #[int i64 f,int i64 b,int i64 i] 55))).step (zc.alloc [] _ (.cells #[int i64 y,int i64 f,int i64 b,int i64 i,Zj r] 85));have hn:=zf (w.alloc (.cells #[int i64 f,int i64 b,int i64 i] 55)) (.cells #[int i64 y,int i64 f,int i64 b,int i64 i,Zj r] 85);rw[World.size_alloc] at hn;have H:=hid (show zb5 _ (w.heap.size+1) y f b i (Zj r) from hn);have K:=hid k2;clear k2 hn;go_enter Tryz.func60,Tryz.ntmps60;go_wp2;go_ret;exact ⟨rfl,H.o,K.o⟩
theorem zhg(v u t:Value)(w:World):(callFunc 60 #[v,u,t]).run Tryz.prog w=.ok (.enter 60 #[v,u,t]) w:=by go_simp
theorem zfz{ad:Addr}{ev:Operand→Value}{oi:Oper}{y:Operand}(hc:w.cell? ad=some v)(ho:oi.op=.load 82 y)(hy:ev y=.pointer (some ad)):(execOp ev oi).run Tryz.prog w=.ok (.value v) w:=by simp[execOp,ho,hy,go_sem,hc]
def nE(n:Nat)(y f b i:Int)(v:Value)(l:Array Bool)(w:World):Prop:=bif l.getD 9 false then zb5 w (n+1) y f b i v else w.heap.size=n
theorem nE.keep{n:Nat}{f b i:Int}{l:Array Bool}(h:nE n y f b i v l w)(hi:k≠9):nE n y f b i v (l.setIfInBounds k true) w:=by
 unfold nE;rw[zX hi];exact h
theorem nE.start{n m:Nat}{f b i:Int}(h:w.heap.size=n):nE n y f b i v (Array.replicate m false) w:=by
 unfold nE;have:(Array.replicate m false).getD 9 false=false:=by
  by_cases hn:9<m
  ·simp[Array.getD,hn]
  ·simp[Array.getD,hn]
 rw[this];exact h
theorem j5{f b i:Int}(hg:JX w)(h:Ji w r y f b i):Calls Tryz.prog 29 #[Zj r] w (znc (some (y,f,b,i)) w):=by
 have ka:=zc.alloc [] w (.cells #[.pointer none] 82);have HA:=hid (zlt r w.heap.size _ (hg.quiet ka) (zf w (.cells #[.pointer none] 82)));have HH:=hid (h.quiet ka);have KA:=hid ka;have hlt:=z8 h;have HNW:Box (∀ w':World,Calls Tryz.prog 60 #[int i64 y,agg #[int i64 f,int i64 b,int i64 i],Zj r] w' fun e w2=>e=.returned (Zj (w'.heap.size+1))∧zb5 w2 (w'.heap.size+1) y f b i (Zj r)∧zc [] w' w2):=hid fun w'=>zox y f b i r w';clear hg h ka;go_enter Tryz.func29,Tryz.ntmps29;go_wp2_with fail;generalize w.alloc (.cells #[.pointer none] 82)=WA at *;obtain ⟨t,ht⟩:∃ t,t=w.heap.size:=⟨_,rfl⟩;rw[← ht] at HA ⊢;have HT:=hid ht;clear ht;refine HA.o.mono ?_;rintro e w1 ⟨rfl,k1,h1⟩;have K1:Box (zc [] w w1):=hid (KA.o.trans k1 (fun x hx hl=>by have:=HT.o;simp at hx;omega));have R1:Box (Ji w1 r y f b i):=hid ((k1.block r (z8 HH.o) (by have:=HT.o;simp;omega)).trans HH.o);have c0:=zd h1 0;have d0:=zd (show w1.heap[r]? = _ from R1.o) 0;have d1:=zd (show w1.heap[r]? = _ from R1.o) 1;have d2:=zd (show w1.heap[r]? = _ from R1.o) 2;have d3:=zd (show w1.heap[r]? = _ from R1.o) 3;clear k1 h1 HA;go_upto_region 4 with fail;refine jZ (fun w'=>zc [] w1 w') (nE w1.heap.size y f b i (Zj r)) 19 [pointer (some ⟨r,0,none⟩),pointer (some ⟨r,0,none⟩),pointer (some ⟨r,0,none⟩),int i64 y,pointer (some ⟨r,0,none⟩),pointer (some ⟨r,0,none⟩),pointer (some ⟨r,1,none⟩),agg #[int i64 f,int i64 b,int i64 i],Zj r,Zj (w1.heap.size+1),Zj (w1.heap.size+1)] (by kernel_rfl) (by rfl) (by kernel_rfl) (zc.drew [] _) (nE.start rfl) (fun A hA=> ?_);simp only[zu,Act.put,sTA,sC0,sCS] at hA;subst hA;refine ⟨gFY (fun _ k9=>zfz (za k9 c0) rfl rfl) (gFR (gFR (gFY (fun _ k9=>zT (za k9 d0) rfl rfl) (gFY (fun _ k9=>zfz (za k9 c0) rfl rfl) (gFR (gFR (gFY (fun _ k9=>zoU (za k9 d1) (za k9 d2) (za k9 d3) rfl rfl) (gFR (zW.cons (zgi (by rfl) 60 #[int i64 y,agg #[int i64 f,int i64 b,int i64 i],Zj r] (fun w=>zor rfl rfl rfl rfl rfl (zhg _ _ _ w)) (fun l w9 hi9 hu9 _ hs9 he9=>by have hsz:w9.heap.size=w1.heap.size:=(by unfold nE at he9;rw[hu9] at he9;exact he9);refine (HNW.o w9).mono ?_;rw[hsz];rintro e w7 ⟨h7,r7,k7⟩;exact ⟨h7,hs9.quiet k7,by unfold nE;rw[q8 hi9];exact r7⟩)) (gFR (zW.nil))))))))))),fun l w8 hl8 k8 h8=> ?_⟩;have h9:zb5 w8 (w1.heap.size+1) y f b i (Zj r):=by
  have hb:l.getD 9 false=true:=hl8 9 (by decide);unfold nE at h8;rw[hb] at h8;exact h8
 have H9:=hid h9;have K8:=hid (K1.o.quiet k8);have R8:=hid (R1.o.quiet k8);have hrl:r<w1.heap.size:=z8 R1.o;clear hl8 h8 k8 h9;go_wp2_with fail;go_ret;exact ⟨_,r,rfl,H9.o,R8.o,by omega,K8.o⟩
theorem zdQ(w:World):(w.alloc (.cells #[.func (.func 24) #[] #[],.func (.func 25) #[] #[],.func (.func 11) #[] #[],.func (.func 26) #[] #[],.func (.func 27) #[] #[],.func (.func 28) #[] #[]] 52)).heap[w.heap.size]? = some (.cells #[.func (.func 24) #[] #[],.func (.func 25) #[] #[],.func (.func 11) #[] #[],.func (.func 26) #[] #[],.func (.func 27) #[] #[],.func (.func 28) #[] #[]] 52 (0,0)):=zf _ _
def Je(P:Pr8):Nat→Option (Int × Int × Int × Int)
 | 0=>if jl P=false then some (2, -1,0,0) else none
 | 1=>(zM P).map fun q=>(3,q)
 | 2=>if zdA P=false then some (7, -1,0,0) else none
 | 3=>(QM P (Jf P)).map fun q=>(4,q)
 | 4=>((bks P).find? (jP P)).map fun q=>(6,ptI q)
 | 5=>((pts P).find? (zbM P)).map fun q=>(5,ptI q)
 | _=>none
theorem QY{q:Int × Int × Int × Int}(hk:k<6)(hb:∀ j,j<k→Je P j=none)(h:Je P k=some q):wfO P=some q:=by
 have b0:0<k→¬ jl P=false:=fun hk e=>by have:=hb 0 hk;simp[Je,e] at this
 have b1:1<k→zM P=none:=fun hk=>by have:=hb 1 hk;simpa [Je] using this
 have b2:2<k→¬ zdA P=false:=fun hk e=>by have:=hb 2 hk;simp[Je,e] at this
 have b3:3<k→QM P (Jf P)=none:=fun hk=>by have:=hb 3 hk;simpa [Je] using this
 have b4:4<k→(bks P).find? (jP P)=none:=fun hk=>by
  have:=hb 4 hk;simp only[Je] at this;exact Option.map_eq_none_iff.1 this
 unfold wfO
 match k,hk,h with
 | 0,_,h=>
  by_cases e:jl P=false
  ·simp[Je,e] at h
   rw[if_pos e, ← h]
  ·simp[Je,e] at h
 | 1,_,h=>
  rw[if_neg (b0 (by omega))];simp only[Je] at h;obtain ⟨q',e,rfl⟩:=Option.map_eq_some_iff.1 h;rw[e]
 | 2,_,h=>
  rw[if_neg (b0 (by omega)),b1 (by omega)];by_cases e:zdA P=false
  ·simp[Je,e] at h
   simp only[if_pos e, ← h]
  ·simp[Je,e] at h
 | 3,_,h=>
  rw[if_neg (b0 (by omega)),b1 (by omega)];simp only[Je] at h;obtain ⟨q',e,rfl⟩:=Option.map_eq_some_iff.1 h;simp only[if_neg (b2 (by omega)),e]
 | 4,_,h=>
  rw[if_neg (b0 (by omega)),b1 (by omega)];simp only[Je] at h;obtain ⟨q',e,rfl⟩:=Option.map_eq_some_iff.1 h;simp only[if_neg (b2 (by omega)),b3 (by omega),e]
 | 5,_,h=>
  rw[if_neg (b0 (by omega)),b1 (by omega)];simp only[Je] at h;obtain ⟨q',e,rfl⟩:=Option.map_eq_some_iff.1 h;simp only[if_neg (b2 (by omega)),b3 (by omega),b4 (by omega),e]
theorem zjr(hb:∀ j,j<6→Je P j=none):wfO P=none:=by
 have b0:¬ jl P=false:=fun e=>by have:=hb 0 (by omega);simp[Je,e] at this
 have b1:zM P=none:=by have:=hb 1 (by omega);simpa [Je] using this
 have b2:¬ zdA P=false:=fun e=>by have:=hb 2 (by omega);simp[Je,e] at this
 have b3:QM P (Jf P)=none:=by have:=hb 3 (by omega);simpa [Je] using this
 have b4:(bks P).find? (jP P)=none:=by
  have:=hb 4 (by omega);simp only[Je] at this;exact Option.map_eq_none_iff.1 this
 have b5:(pts P).find? (zbM P)=none:=by
  have:=hb 5 (by omega);simp only[Je] at this;exact Option.map_eq_none_iff.1 this
 unfold wfO;rw[if_neg b0,b1];simp only[if_neg b2,b3,b4,b5]
def Jv(o:Option (Int × Int × Int × Int))(w:World)(e:Ending)(w':World):Prop:=match o with
 | none=>e=.returned .nilIface∧zc [] w w'
 | some q=>∃ r,e=.returned (Zj r)∧Ji w' r q.1 q.2.1 q.2.2.1 q.2.2.2∧zc [] w w'
theorem zlq(hb:jl P=true):SzP P:=by
 have sm10:=Jr (zaf hb);refine ⟨Nat.le_trans sm10.fn (by decide),fun f hf=>(zcf hb hf).2.1,fun f hf=>Nat.le_trans (zcf hb hf).2.2 (by decide),fun f hf=>Nat.le_trans (zcf hb hf).1 (by decide),fun f b hf=> ?_,fun f b k hf hk=> ?_⟩
 ·by_cases hb':b<(zg P f).blocks.length
  ·exact Nat.le_trans (sm10.code hf hb') (by decide)
  ·unfold zr
   rw[JF hb'];simp
 ·by_cases hb':b<(zg P f).blocks.length
  ·exact zae hb f b k hf hb' hk
  ·unfold zr at hk
   rw[JF hb'] at hk;simp at hk
def zmV:Nat→Nat
 | 0=>24
 | 1=>25
 | 2=>11
 | 3=>26
 | 4=>27
 | _=>28
theorem zm8(h:PrC w pb po P)(hT:jS w)(hk:k<6)(hb:∀ j,j<k→Je P j=none):Calls Tryz.prog (zmV k) #[pointer (some ⟨pb,po,none⟩)] w (Jv (Je P k) w):=by
 have b0:0<k→jl P=true:=fun hk=>by
  cases e:jl P with
  | true=>rfl
  | false=>have:=hb 0 hk;simp[Je,e] at this
 match k,hk with
 | 0,_=>
  refine (zgH h).mono ?_;intro e w' h';show Jv (if jl P=false then some (2, -1,0,0) else none) w e w';cases hbn:jl P with
  | true=>rw[hbn] at h';exact h'
  | false=>rw[hbn] at h';exact h'
 | 1,_=>
  refine (zht h (zae (b0 (by omega)))).mono ?_;intro e w' h';show Jv ((zM P).map fun q=>(3,q)) w e w';cases hn:zM P with
  | none=>rw[hn] at h';exact h'
  | some q=>rw[hn] at h';exact h'
 | 2,_=>
  refine (zka h).mono ?_;intro e w' h';show Jv (if zdA P=false then some (7, -1,0,0) else none) w e w';cases hbn:zdA P with
  | true=>rw[hbn] at h';exact h'
  | false=>rw[hbn] at h';exact h'
 | 3,_=>
  have hs:=Jr (zaf (b0 (by omega)));refine (zg4 h hs (g:=Jf P) (fun w' f b i a cp kk hf hb2 hi hz=> ?_)).mono ?_
  ·exact zkg (PrC.stays _ _ _ _ _ kk h) hf _ hz (zae (b0 (by omega)) f b i hf hb2 hi)
  intro e w' h';show Jv ((QM P (Jf P)).map fun q=>(4,q)) w e w';cases hn:QM P (Jf P) with
  | none=>rw[hn] at h';exact h'
  | some q=>rw[hn] at h';exact h'
 | 4,_=>
  refine (zhm h (zlq (b0 (by omega)))).mono ?_;intro e w' h';show Jv (((bks P).find? (jP P)).map fun q=>(6,ptI q)) w e w';cases hn:(bks P).find? (jP P) with
  | none=>rw[hn] at h';exact h'
  | some q=>rw[hn] at h';exact h'
 | 5,_=>
  refine (zie h hT (zlq (b0 (by omega)))).mono ?_;intro e w' h';show Jv (((pts P).find? (zbM P)).map fun q=>(5,ptI q)) w e w';cases hn:(pts P).find? (zbM P) with
  | none=>rw[hn] at h';exact h'
  | some q=>rw[hn] at h';exact h'
theorem Qc(h:PrC w pb po P)(hg:JX w)(hT:jS w):Calls Tryz.prog 10 #[pointer (some ⟨pb,po,none⟩)] w (znc (wfO P) w):=by
 have HP:=hid h;have HG:=hid hg;have HT:=hid hT;have HASK:=hid fun (w':World) (k:Nat) (hk:k<6) (kp:zc [] w w') (hb:∀ j,j<k→Je P j=none)=>zm8 (PrC.stays _ _ _ _ _ kp h) (hT.kept kp (by simp)) hk hb;have HN:=hid (zdQ w);have HKA:=hid (zc.alloc [] w (.cells #[.func (.func 24) #[] #[],.func (.func 25) #[] #[],.func (.func 11) #[] #[],.func (.func 26) #[] #[],.func (.func 27) #[] #[],.func (.func 28) #[] #[]] 52));clear h hg hT;go_enter Tryz.func10,Tryz.ntmps10;go_wp2_with fail;generalize w.alloc (.cells #[.func (.func 24) #[] #[],.func (.func 25) #[] #[],.func (.func 11) #[] #[],.func (.func 26) #[] #[],.func (.func 27) #[] #[],.func (.func 28) #[] #[]] 52)=W at *;generalize w.heap.size=q at *
 go_loopw [8] (fun kv wr=>∃ k:Nat,k≤6∧kv=int i64 (k:Int)∧Box (zc [] W wr)∧Box (∀ j,j<k→Je P j=none)) (fun kv _=>6 - (intOf kv).toNat)
 case atStart=>exact ⟨0,by omega,rfl,hid (zc.refl _ _),hid fun j hj=>by omega⟩
 case round=>
  obtain ⟨k,hk,rfl,HK,HJ⟩:=hrel;have hq:=ze HN.o HK.o;by_cases hk0:k=0
  ·subst hk0
   have c0:=zd hq 0;have HA:=hid (HASK.o wr 0 (by omega) (HKA.o.quiet HK.o) HJ.o);unfold zmV at HA;clear hq hk;go_wp2_with fail;refine HA.o.mono ?_;intro e w3 h3;clear c0 HA;cases ho:Je P 0 with
   | none=>
    rw[ho] at h3;obtain ⟨rfl,k3⟩:=h3;have K3:=hid (HK.o.quiet k3);have HO:=hid ho;clear k3 ho;go_wp2_with fail;go_roundw
    case rel=>
     refine ⟨1,by omega,by go_num,K3,hid fun j hj=> ?_⟩;by_cases hjk:j=0
     ·subst hjk
      exact HO.o
     ·exact HJ.o j (by omega)
    case measure=>simp[intOf]
   | some z=>
    rw[ho] at h3;obtain ⟨r,rfl,hr,k3⟩:=h3;have K3:=hid (HKA.o.quiet (HK.o.quiet k3));have HO:Box (wfO P=some z):=hid (QY (by omega) HJ.o ho);have HW:=hid (j5 (HG.o.quiet (HKA.o.quiet (HK.o.quiet k3))) hr);clear k3 ho hr;go_wp2_with fail;refine HW.o.mono ?_;rintro e w4 ⟨p4,r4,rfl,h41,h42,h43,k4⟩;have H4:=hid (And.intro h41 (And.intro h42 (And.intro h43 (K3.o.quiet k4))));clear h41 h42 h43 k4 HW;go_wp2_with fail;go_ret;rw[HO.o];exact ⟨p4,r4,rfl,H4.o.1,H4.o.2.1,H4.o.2.2.1,H4.o.2.2.2⟩
  by_cases hk1:k=1
  ·subst hk1
   have c0:=zd hq 1;have HA:=hid (HASK.o wr 1 (by omega) (HKA.o.quiet HK.o) HJ.o);unfold zmV at HA;clear hq hk;go_wp2_with fail;refine HA.o.mono ?_;intro e w3 h3;clear c0 HA;cases ho:Je P 1 with
   | none=>
    rw[ho] at h3;obtain ⟨rfl,k3⟩:=h3;have K3:=hid (HK.o.quiet k3);have HO:=hid ho;clear k3 ho;go_wp2_with fail;go_roundw
    case rel=>
     refine ⟨2,by omega,by go_num,K3,hid fun j hj=> ?_⟩;by_cases hjk:j=1
     ·subst hjk
      exact HO.o
     ·exact HJ.o j (by omega)
    case measure=>simp[intOf]
   | some z=>
    rw[ho] at h3;obtain ⟨r,rfl,hr,k3⟩:=h3;have K3:=hid (HKA.o.quiet (HK.o.quiet k3));have HO:Box (wfO P=some z):=hid (QY (by omega) HJ.o ho);have HW:=hid (j5 (HG.o.quiet (HKA.o.quiet (HK.o.quiet k3))) hr);clear k3 ho hr;go_wp2_with fail;refine HW.o.mono ?_;rintro e w4 ⟨p4,r4,rfl,h41,h42,h43,k4⟩;have H4:=hid (And.intro h41 (And.intro h42 (And.intro h43 (K3.o.quiet k4))));clear h41 h42 h43 k4 HW;go_wp2_with fail;go_ret;rw[HO.o];exact ⟨p4,r4,rfl,H4.o.1,H4.o.2.1,H4.o.2.2.1,H4.o.2.2.2⟩
  by_cases hk2:k=2
  ·subst hk2
   have c0:=zd hq 2;have HA:=hid (HASK.o wr 2 (by omega) (HKA.o.quiet HK.o) HJ.o);unfold zmV at HA;clear hq hk;go_wp2_with fail;refine HA.o.mono ?_;intro e w3 h3;clear c0 HA;cases ho:Je P 2 with
   | none=>
    rw[ho] at h3;obtain ⟨rfl,k3⟩:=h3;have K3:=hid (HK.o.quiet k3);have HO:=hid ho;clear k3 ho;go_wp2_with fail;go_roundw
    case rel=>
     refine ⟨3,by omega,by go_num,K3,hid fun j hj=> ?_⟩;by_cases hjk:j=2
     ·subst hjk
      exact HO.o
     ·exact HJ.o j (by omega)
    case measure=>simp[intOf]
   | some z=>
    rw[ho] at h3;obtain ⟨r,rfl,hr,k3⟩:=h3;have K3:=hid (HKA.o.quiet (HK.o.quiet k3));have HO:Box (wfO P=some z):=hid (QY (by omega) HJ.o ho);have HW:=hid (j5 (HG.o.quiet (HKA.o.quiet (HK.o.quiet k3))) hr);clear k3 ho hr;go_wp2_with fail;refine HW.o.mono ?_;rintro e w4 ⟨p4,r4,rfl,h41,h42,h43,k4⟩;have H4:=hid (And.intro h41 (And.intro h42 (And.intro h43 (K3.o.quiet k4))));clear h41 h42 h43 k4 HW;go_wp2_with fail;go_ret;rw[HO.o];exact ⟨p4,r4,rfl,H4.o.1,H4.o.2.1,H4.o.2.2.1,H4.o.2.2.2⟩
  by_cases hk3:k=3
  ·subst hk3
   have c0:=zd hq 3;have HA:=hid (HASK.o wr 3 (by omega) (HKA.o.quiet HK.o) HJ.o);unfold zmV at HA;clear hq hk;go_wp2_with fail;refine HA.o.mono ?_;intro e w3 h3;clear c0 HA;cases ho:Je P 3 with
   | none=>
    rw[ho] at h3;obtain ⟨rfl,k3⟩:=h3;have K3:=hid (HK.o.quiet k3);have HO:=hid ho;clear k3 ho;go_wp2_with fail;go_roundw
    case rel=>
     refine ⟨4,by omega,by go_num,K3,hid fun j hj=> ?_⟩;by_cases hjk:j=3
     ·subst hjk
      exact HO.o
     ·exact HJ.o j (by omega)
    case measure=>simp[intOf]
   | some z=>
    rw[ho] at h3;obtain ⟨r,rfl,hr,k3⟩:=h3;have K3:=hid (HKA.o.quiet (HK.o.quiet k3));have HO:Box (wfO P=some z):=hid (QY (by omega) HJ.o ho);have HW:=hid (j5 (HG.o.quiet (HKA.o.quiet (HK.o.quiet k3))) hr);clear k3 ho hr;go_wp2_with fail;refine HW.o.mono ?_;rintro e w4 ⟨p4,r4,rfl,h41,h42,h43,k4⟩;have H4:=hid (And.intro h41 (And.intro h42 (And.intro h43 (K3.o.quiet k4))));clear h41 h42 h43 k4 HW;go_wp2_with fail;go_ret;rw[HO.o];exact ⟨p4,r4,rfl,H4.o.1,H4.o.2.1,H4.o.2.2.1,H4.o.2.2.2⟩
  by_cases hk4:k=4
  ·subst hk4
   have c0:=zd hq 4;have HA:=hid (HASK.o wr 4 (by omega) (HKA.o.quiet HK.o) HJ.o);unfold zmV at HA;clear hq hk;go_wp2_with fail;refine HA.o.mono ?_;intro e w3 h3;clear c0 HA;cases ho:Je P 4 with
   | none=>
    rw[ho] at h3;obtain ⟨rfl,k3⟩:=h3;have K3:=hid (HK.o.quiet k3);have HO:=hid ho;clear k3 ho;go_wp2_with fail;go_roundw
    case rel=>
     refine ⟨5,by omega,by go_num,K3,hid fun j hj=> ?_⟩;by_cases hjk:j=4
     ·subst hjk
      exact HO.o
     ·exact HJ.o j (by omega)
    case measure=>simp[intOf]
   | some z=>
    rw[ho] at h3;obtain ⟨r,rfl,hr,k3⟩:=h3;have K3:=hid (HKA.o.quiet (HK.o.quiet k3));have HO:Box (wfO P=some z):=hid (QY (by omega) HJ.o ho);have HW:=hid (j5 (HG.o.quiet (HKA.o.quiet (HK.o.quiet k3))) hr);clear k3 ho hr;go_wp2_with fail;refine HW.o.mono ?_;rintro e w4 ⟨p4,r4,rfl,h41,h42,h43,k4⟩;have H4:=hid (And.intro h41 (And.intro h42 (And.intro h43 (K3.o.quiet k4))));clear h41 h42 h43 k4 HW;go_wp2_with fail;go_ret;rw[HO.o];exact ⟨p4,r4,rfl,H4.o.1,H4.o.2.1,H4.o.2.2.1,H4.o.2.2.2⟩
  by_cases hk5:k=5
  ·subst hk5
   have c0:=zd hq 5;have HA:=hid (HASK.o wr 5 (by omega) (HKA.o.quiet HK.o) HJ.o);unfold zmV at HA;clear hq hk;go_wp2_with fail;refine HA.o.mono ?_;intro e w3 h3;clear c0 HA;cases ho:Je P 5 with
   | none=>
    rw[ho] at h3;obtain ⟨rfl,k3⟩:=h3;have K3:=hid (HK.o.quiet k3);have HO:=hid ho;clear k3 ho;go_wp2_with fail;go_roundw
    case rel=>
     refine ⟨6,by omega,by go_num,K3,hid fun j hj=> ?_⟩;by_cases hjk:j=5
     ·subst hjk
      exact HO.o
     ·exact HJ.o j (by omega)
    case measure=>simp[intOf]
   | some z=>
    rw[ho] at h3;obtain ⟨r,rfl,hr,k3⟩:=h3;have K3:=hid (HKA.o.quiet (HK.o.quiet k3));have HO:Box (wfO P=some z):=hid (QY (by omega) HJ.o ho);have HW:=hid (j5 (HG.o.quiet (HKA.o.quiet (HK.o.quiet k3))) hr);clear k3 ho hr;go_wp2_with fail;refine HW.o.mono ?_;rintro e w4 ⟨p4,r4,rfl,h41,h42,h43,k4⟩;have H4:=hid (And.intro h41 (And.intro h42 (And.intro h43 (K3.o.quiet k4))));clear h41 h42 h43 k4 HW;go_wp2_with fail;go_ret;rw[HO.o];exact ⟨p4,r4,rfl,H4.o.1,H4.o.2.1,H4.o.2.2.1,H4.o.2.2.2⟩
  have hk6:k=6:=by omega
  subst hk6;have HO:Box (wfO P=none):=hid (zjr HJ.o);clear hq hk;go_wp2_with fail;go_ret;rw[HO.o];exact ⟨rfl,HKA.o.quiet HK.o⟩
theorem zgw(w:World)(hg:JX w):Calls Tryz.prog 10 #[.pointer none] w (znc (some (2, -1,0,0)) w):=by
 have HG:=hid hg;have HN:=hid (zdQ w);have HKA:=hid (zc.alloc [] w (.cells #[.func (.func 24) #[] #[],.func (.func 25) #[] #[],.func (.func 11) #[] #[],.func (.func 26) #[] #[],.func (.func 27) #[] #[],.func (.func 28) #[] #[]] 52));clear hg;go_enter Tryz.func10,Tryz.ntmps10;go_wp2_with fail;generalize w.alloc (.cells #[.func (.func 24) #[] #[],.func (.func 25) #[] #[],.func (.func 11) #[] #[],.func (.func 26) #[] #[],.func (.func 27) #[] #[],.func (.func 28) #[] #[]] 52)=W at *;generalize w.heap.size=q at *
 go_loopw [8] (fun kv wr=>kv=int i64 (0:Int)∧Box (zc [] W wr)) (fun kv _=>6 - (intOf kv).toNat)
 case atStart=>exact ⟨rfl,hid (zc.refl _ _)⟩
 case round=>
  obtain ⟨rfl,HK⟩:=hrel;have hq:=ze HN.o HK.o;have c0:=zd hq 0;have HA:=hid (zg3 wr);clear hq;go_wp2_with fail;refine HA.o.mono ?_;rintro e w3 ⟨r,rfl,hr,k3⟩;clear c0 HA;have K3:=hid (HKA.o.quiet (HK.o.quiet k3));have HW:=hid (j5 (HG.o.quiet (HKA.o.quiet (HK.o.quiet k3))) hr);clear k3 hr;go_wp2_with fail;refine HW.o.mono ?_;rintro e w4 ⟨p4,r4,rfl,h41,h42,h43,k4⟩;have H4:=hid (And.intro h41 (And.intro h42 (And.intro h43 (K3.o.quiet k4))));clear h41 h42 h43 k4 HW;go_wp2_with fail;go_ret;exact ⟨p4,r4,rfl,H4.o.1,H4.o.2.1,H4.o.2.2.1,H4.o.2.2.2⟩
def zkp(w:World)(L:List UInt8)(e:Ending)(w':World):Prop:=
 zc [] w w'∧((∃ b P,L.length≤20000∧prE P=L∧wfO P=none∧e=.returned (.tuple #[pointer (some ⟨b,0,none⟩),.nilIface])∧PrC w' b 0 P)∨
  (∃ P q p r,L.length≤20000∧zhW P∧prE P=L∧wfO P=some q∧e=.returned (.tuple #[.pointer none,Zj p])∧zb5 w' p q.1 q.2.1 q.2.2.1 q.2.2.2 (Zj r))∨
  ((20000<L.length∨∀ P,zhW P→prE P≠L)∧∃ p,e=.returned (.tuple #[.pointer none,Zj p])∧Ji w' p 1 (-1) 0 0))
theorem JL{a:Option Addr}{cp:Nat}{L:List UInt8}(hb:qi w a L)(hcp:L.length≤cp)(hL:L.length≤9223372036854775807)(hg:JX w)(hT:jS w):Calls Tryz.prog 21 #[.slice a L.length cp] w (zkp w L):=by
 have HD:=hid (zgb hb hcp hL);have HG:=hid hg;have HT:=hid hT;obtain ⟨N,hN⟩:∃ n,n=L.length:=⟨_,rfl⟩;rw[← hN] at HD ⊢;have HN:=hid hN;clear hb hcp hL hg hT hN;go_enter Tryz.func21,Tryz.ntmps21;go_wp2_with fail;refine HD.o.mono ?_;rintro e w1 ⟨k1,⟨hl,b,P,rfl,hP,hE⟩ | ⟨hbad,p,rfl,hr⟩⟩
 ·have K1:=hid k1
  have HLE:=hid (And.intro hl hE);have HP1:=hid hP;have HC:=hid (Qc hP (HG.o.quiet k1) (HT.o.kept k1 (by simp)));clear k1 hl hE hP HD;go_wp2_with fail;refine HC.o.mono ?_;intro e w2 h2;clear HC;cases ho:wfO P with
  | none=>
   rw[ho] at h2;obtain ⟨rfl,k2⟩:=h2;have K2:=hid k2;have HO:=hid ho;clear k2 ho;go_wp2_with fail
   go_ret2
   exact ⟨K1.o.quiet K2.o,.inl ⟨b,P,HLE.o.1,HLE.o.2,HO.o,rfl,PrC.stays _ _ _ _ _ K2.o HP1.o⟩⟩
  | some z=>
   rw[ho] at h2;obtain ⟨p,r,rfl,h21,h22,h23,k2⟩:=h2;have K2:=hid k2;have HO:=hid ho;have H2:=hid h21;clear k2 ho h21 h22 h23;go_wp2_with fail
   go_ret2
   exact ⟨K1.o.quiet K2.o,.inr (.inl ⟨P,z,p,r,HLE.o.1,PrC.ok HP1.o,HLE.o.2,HO.o,rfl,H2.o⟩)⟩
 ·have K1:=hid k1
  have HB:=hid hbad;have HR:=hid hr;clear k1 hbad hr HD;go_wp2_with fail
  go_ret2
  exact ⟨K1.o,.inr (.inr ⟨HB.o,p,rfl,HR.o⟩)⟩
end Go.Proofs.YtkgoimokgbdgfaaGreatDoor
