/-
    WfLoad, up to the size that the kit names: any bytes are a program that may be, whose bytes they are, or are refused.
  Conditions: errors.errorType and math/bits.deBruijn64tab hold what the program's text lays (the card ties them); the tie speaks of the pruned copy of the project that this seat loads.

-/
import Derived.Test.YtkgoimokgbdgfaaGreatDoorV15
import Derived.Test.YtkgoimokgbdgfaaGreatDoorW39

namespace Go.Proofs.YtkgoimokgbdgfaaGreatDoor
open Go.RowKit
open Go.Value (int pointer agg)
open Go.IntKind (i64)
set_option maxRecDepth 100000
set_option maxHeartbeats 8000000
theorem zij{w:World}{a:Option Addr}{cp:Nat}{L:List UInt8}(hg:JX w)(hT:jS w)(hb:qi w a L)(hcp:L.length≤cp)(hL:L.length≤9223372036854775807):Calls Tryz.prog 19 #[.slice a L.length cp] w fun e w'=>e=.returned (.bool true)∧zc [] w w':=by
 have HG:=hid hg;have HLD:=hid (JL hb hcp hL hg hT);have HBY:=hid hb;obtain ⟨N,hN⟩:∃ n,n=L.length:=⟨_,rfl⟩;rw[← hN] at HLD ⊢;have HN:=hid hN;clear hg hT hb hcp hL hN;go_enter Tryz.func19,Tryz.ntmps19;go_wp2_with fail;refine HLD.o.mono ?_;rintro e w1 ⟨k1,⟨b,P,hl,hE,ho,rfl,hP⟩ | ⟨P,q,p,r,hl,hok,hE,ho,rfl,hr⟩ | ⟨hbad,p,rfl,hr⟩⟩
 ·have K1:=hid k1
  have HP:=hid hP;have HE:=hid (And.intro hE hl);have HO:=hid ho;clear k1 hl hE ho hP HLD;go_wp2_with fail;refine (Ja HP.o).mono ?_;rintro e w2 ⟨s,rfl,rfl,hs⟩;have HS:=hid hs;clear hs;cases s with
  | false=>
   go_wp2_with fail;go_ret;exact ⟨rfl,K1.o⟩
  | true=>
  have HSM:Box (jl P=true→Sm8 P):=hid fun _=>(HS.o (by trivial)).sm;go_wp2_with fail;refine (zau HP.o HSM.o).mono ?_;rintro e w3 ⟨rfl,k3⟩;rw[HO.o];simp only[Option.getD_none];go_upto_region 8 with fail;have kb:=k3.quiet (zc.alloc [] w3 (.cells #[int i64 (-1),int i64 0,int i64 0] 55));have K4:=hid (K1.o.quiet kb);have HP4:=hid (PrC.stays _ _ _ _ _ kb HP.o);clear k3 kb HS HSM;generalize w3.alloc (.cells #[int i64 (-1),int i64 0,int i64 0] 55)=w4 at *;generalize w3.heap.size=q4 at *;have HFE:=hid fun (w':World) (k:zc [] w4 w')=>zbX (PrC.stays _ _ _ _ _ k HP4.o) (by rw[HE.o.1];have:=HE.o.2;omega);have HNE:Box (L≠[]):=hid (by rw[← HE.o.1];exact zdD P);have HB4:=hid fun (w':World) (k:zc [] w4 w')=>HBY.o.quiet (K4.o.quiet k);have HD:=hid (zc.drew [] w4);have cvt:∀ {W:World}{a:Option Addr}{cp:Nat}{L:List UInt8}{n:Nat}{ev:Operand→Value}{oi:Oper}{x:Operand},qi W a L→L≠[]→n=L.length→oi.op=.convert 63 9 x→ev x=.slice a n cp→(execOp ev oi).run Tryz.prog W=.ok (.value (.string (QL L))) W:=fun hb hL hn ho hx=>by
   subst hn;simp[execOp,ho,hx,zbJ hb hL,go_sem]
  have fin:∀ {S T:ByteArray}{W:World}{ev:Operand→Value}{oi:Oper}{x y:Operand},oi.op=.binOp .eql 9 x y 9→ev x=.string S→ev y=.string T→(execOp ev oi).run Tryz.prog W=.ok (.value (.bool (S.toList == T.toList))) W:=fun ho hx hy=>by
   simp[execOp,ho,hx,hy,go_sem]
  have eq0:∀ {W:World}{ev:Operand→Value}{oi:Oper}{x y:Operand},oi.op=.binOp .eql 3 x y 3→ev x=int i64 0→ev y=int i64 0→(execOp ev oi).run Tryz.prog W=.ok (.value (.bool true)) W:=fun ho hx hy=>by
   simp[execOp,ho,hx,hy,go_sem]
  refine wp_region_held_drew (S:=fun w'=>zc [] w4 w') (by kernel_rfl) HD.o (fun _=> ?_);refine zE (i:=0) (d:=35) (v:=int i64 0) rfl rfl (by as_aux_lemma=>kernel_rfl) (fun _ _ _ h=>h) (by rfl) HD.o (fun _ _=>rfl) ?_;simp only[Act.put,sTA,sC0,sCS];refine zE (i:=1) (d:=36) (v:=.bool true) rfl rfl (by as_aux_lemma=>kernel_rfl) (fun _ _ _ h=>h) (by rfl) HD.o (fun _ _=>eq0 rfl rfl rfl) ?_;simp only[Act.put,sTA,sC0,sCS];refine zE (i:=2) (d:=37) (v:=.bool true) rfl rfl (by as_aux_lemma=>kernel_rfl) (fun _ _ _ h=>h) (by rfl) HD.o (fun _ _=>rfl) ?_;simp only[Act.put,sTA,sC0,sCS];refine zE (i:=3) (d:=38) (v:=pointer (some ⟨b,0,none⟩)) rfl rfl (by as_aux_lemma=>kernel_rfl) (fun _ _ _ h=>h) (by rfl) HD.o (fun _ _=>rfl) ?_;simp only[Act.put,sTA,sC0,sCS];refine zE (i:=6) (d:=41) (v:=.slice a N cp) rfl rfl (by as_aux_lemma=>kernel_rfl) (fun _ _ _ h=>h) (by rfl) HD.o (fun _ _=>rfl) ?_;simp only[Act.put,sTA,sC0,sCS];refine zE (i:=7) (d:=42) (v:=.string (QL L)) rfl rfl (by as_aux_lemma=>kernel_rfl) (fun _ _ _ h=>h) (by rfl) HD.o (fun w9 k9=>cvt (HB4.o w9 k9) HNE.o HN.o rfl rfl) ?_;simp only[Act.put,sTA,sC0,sCS];refine Z6 (i:=4) (by as_aux_lemma=>kernel_rfl) ?_;refine ZI (i:=4) (d:=39) rfl rfl (by rfl) 20 #[pointer (some ⟨b,0,none⟩)] (qY rfl rfl rfl (zaE _ _)) (HFE.o _ HD.o) ?_;rintro v6 w6 ⟨a6,c6,rfl,B6,_,K6⟩;have T6:=HD.o.quiet K6;refine ⟨T6,?_⟩;simp only[Act.put,sTA,sC0,sCS];refine Z6 (i:=5) (by as_aux_lemma=>kernel_rfl) ?_;refine Jy (i:=5) (d:=40) (.string (QL (prE P))) rfl rfl (by rfl) (cvt B6 (zdD P) rfl rfl rfl) ?_;refine ⟨T6,?_⟩;simp only[Act.put,sTA,sC0,sCS];refine zE (i:=8) (d:=43) (v:=.bool ((QL (prE P)).toList == (QL L).toList)) rfl rfl (by as_aux_lemma=>kernel_rfl) (fun _ _ _ h=>h) (by rfl) T6 (fun _ _=>fin rfl rfl rfl) ?_;simp only[Act.put,sTA,sC0,sCS];refine zE (i:=9) (d:=44) (v:=.bool ((QL (prE P)).toList == (QL L).toList)) rfl rfl (by as_aux_lemma=>kernel_rfl) (fun _ _ _ h=>h) (by rfl) T6 (fun _ _=>rfl) ?_;simp only[Act.put,sTA,sC0,sCS];refine zE (i:=10) (d:=2) (v:=.bool ((QL (prE P)).toList == (QL L).toList)) rfl rfl (by as_aux_lemma=>kernel_rfl) (fun _ _ _ h=>h) (by rfl) T6 (fun _ _=>rfl) ?_;simp only[Act.put,sTA,sC0,sCS];refine wpAnyH_done (by as_aux_lemma=>kernel_rfl) ?_ _;have he:((QL (prE P)).toList == (QL L).toList)=true:=by rw[zhG,HE.o.1];exact decide_eq_true rfl
  rw[he];have K9:=hid (K4.o.quiet T6);clear he cvt fin eq0;go_wp2_with fail;go_ret;exact ⟨rfl,K9.o⟩
 ·obtain ⟨⟨hy1,hy2⟩, -⟩:=zmy ho
  have K1:=hid k1;have HR:=hid hr;obtain ⟨y,hy⟩:∃ y,y=q.1:=⟨_,rfl⟩;rw[← hy] at HR hy1 hy2;clear k1 hl hok hE ho hr HLD hy;go_wp2_with fail;refine (Jz (HG.o.quiet K1.o) HR.o).mono ?_;rintro e w2 ⟨rfl,k2⟩;have K2:=hid (K1.o.quiet k2);have o1:decide ((1:Int)≤y)=true:=decide_eq_true (by omega);have o2:decide (y≤(7:Int))=true:=decide_eq_true (by omega);clear k2;go_wp2_with fail;go_ret;exact ⟨rfl,K2.o⟩
 ·have K1:=hid k1
  have HR:=hid hr;clear k1 hbad hr HLD;go_wp2_with fail;refine (Jz (HG.o.quiet K1.o) HR.o).mono ?_;rintro e w2 ⟨rfl,k2⟩;have K2:=hid (K1.o.quiet k2);clear k2;go_wp2_with fail;go_ret;exact ⟨rfl,K2.o⟩
theorem zpe{w:World}{v:Value}{at0:Int}{xn:Nat}{ra:Option Addr}{rcp:Nat}{RL:List UInt8}(hg:JX w)(hT:jS w)(hp:zbs 1048576 w v)(hat:b64 at0)(hxb:xn<256)(hb:qi w ra RL)(hcp:RL.length≤rcp)(hRL:RL.length≤maxLen):Calls Tryz.prog 5 #[v,int i64 at0,.int .u8 (xn:Int),.slice ra RL.length rcp] w fun e w'=>e=.returned (.bool true)∧zc [] w w':=by
 have HG:=hid hg;have HT:=hid hT;have HPA:=hid hp;have HBY:=hid hb;have HB:=hid (Z0 w hg hT);have HAT:=hid hat;unfold maxLen at hRL;obtain ⟨RN,hRN⟩:∃ n,n=RL.length:=⟨_,rfl⟩;rw[← hRN] at hcp hRL ⊢;have HRN:=hid hRN;clear hg hT hp hb hRN hat;go_enter Tryz.func5,Tryz.ntmps5;go_wp2_with fail;refine HB.o.mono ?_;rintro e w1 ⟨rfl,k1⟩;have K1:=hid k1;clear HB k1
 go_upto_if 16 with fail
 go_cut [3] (fun t wz=>wz=w1∧∃ n,t=.slice ra n rcp∧Box (∃ l,n=l.length∧qi w ra l∧n≤rcp∧n≤9223372036854775807))
 case first=>
  by_cases h2:200<RN
  ·have h2':(200:Int)<(RN:Int):=by omega
   have h3:(200:Int)≤(rcp:Int):=by omega
   have h4:200≤rcp:=by omega
   go_wp2_with fail;go_meet;exact ⟨rfl,200,rfl,hid ⟨RL.take 200,by rw[List.length_take, ← HRN.o];omega,HBY.o.take 200,by omega,by omega⟩⟩
  ·have h2':¬ (200:Int)<(RN:Int):=by omega
   go_wp2_with fail;go_meet;exact ⟨rfl,RN,rfl,hid ⟨RL,HRN.o,HBY.o,hcp,by omega⟩⟩
 case rest=>
 obtain ⟨hw,n,rfl,HLL⟩:=hcut;have hw':=hw.symm;subst hw';clear hw hcp hRL HBY HRN;obtain ⟨l,hn,hbl,hc,hm⟩:=HLL.o;have HLD:=hid (zij (HG.o.quiet K1.o) (HT.o.kept K1.o (by simp)) (hbl.quiet K1.o) (by rw[← hn];exact hc) (by rw[← hn];exact hm));rw[← hn] at HLD;clear hn hbl hc hm HLL;go_wp2_with fail;refine HLD.o.mono ?_;rintro e w2 ⟨rfl,k2⟩;have K2:=hid (K1.o.quiet k2);clear k2 HLD;rcases HPA.o with rfl | ⟨pb,po,P,rfl,hP,hfew⟩
 ·go_wp2_with fail
  refine (zhb _).mono ?_;rintro e w3 ⟨rfl,rfl⟩;go_wp2_with fail;go_ret;exact ⟨rfl,K2.o⟩
 have HP:=hid hP;have HFW:=hid hfew;clear hP hfew;go_wp2_with fail;refine (Ja (PrC.stays _ _ _ _ _ K2.o HP.o)).mono ?_;rintro e w3 ⟨s,rfl,rfl,hs⟩;have HS:=hid hs;clear hs;cases s with
 | false=>
  go_wp2_with fail;go_ret;exact ⟨rfl,K2.o⟩
 | true=>
 have HLE:Box ((prE P).length≤35184372088832):=hid (zly (PrC.ok HP.o) (HS.o (by trivial)) HFW.o);clear HS;go_wp2_with fail;refine (zfp (PrC.stays _ _ _ _ _ K2.o HP.o) HLE.o).mono ?_;rintro e w4 ⟨v4,rfl,hob⟩;obtain ⟨a4,c4,rfl,hb4,hc4,ho4⟩:=hob.open;have K4:=hid (K2.o.quiet hob.keeps);have HNE:=zdD P;obtain ⟨g,off4,rfl, -⟩:=hb4.row HNE;obtain ⟨-,rfl⟩:=ho4 g off4 rfl;have HOB:=hid hob;have HLN:=hid HLE.o;have hpos:0<(prE P).length:=by have:=zh4 P;omega
 obtain ⟨B,hB⟩:∃ l,l=prE P:=⟨_,rfl⟩;rw[← hB] at HOB HLN hpos hc4 ⊢;obtain ⟨m,hm⟩:∃ m,m=B.length:=⟨_,rfl⟩;rw[← hm] at HOB HLN hpos hc4 ⊢;have HM:=hid hm;clear hob hb4 ho4 HNE hB hm HLE;by_cases hbig:20000<m
 ·have hbig':(20000:Int)<(m:Int):=by omega
  go_wp2_with fail;go_ret;exact ⟨rfl,K4.o⟩
 have hbig':¬ (20000:Int)<(m:Int):=by omega
 have hpos':(0:Int)<(m:Int):=by omega
 by_cases hat0:0≤at0
 ·obtain ⟨an,rfl⟩:=Int.eq_ofNat_of_zero_le hat0
  have hj:an % m<m:=Nat.mod_lt _ hpos;have hm0:¬ m=0:=by omega
  obtain ⟨j,hjj⟩:∃ j,j=an % m:=⟨_,rfl⟩;have HJ:=hid hjj;rw[← hjj] at hj;have hj':(j:Int)<(m:Int):=by omega
  have hj0:(0:Int)≤(j:Int):=by omega
  have hmod:((an:Int)).tmod (m:Int)=(j:Int):=by rw[HJ.o,Int.tmod_eq_emod_of_nonneg (by omega)];omega
  have hmod2:(an:Int) % (m:Int)=(j:Int):=by rw[HJ.o];omega
  have HB1:Box (B=B.take m):=hid (by rw[HM.o,List.take_length]);obtain ⟨c,hc⟩:∃ c,B[j]? = some c:=⟨_,List.getElem?_eq_getElem (by rw[← HM.o];exact hj)⟩;obtain ⟨cell0,fz0⟩:=znk HOB.o HB1.o hc;obtain ⟨y,hy⟩:∃ y,y=c.toNat:=⟨_,rfl⟩;rw[← hy] at cell0;have hx:bits BinOp.xor IntKind.u8 (y:Int) (xn:Int)=((y ^^^ xn:Nat):Int):=u8_xor_nat y xn (by rw[hy];exact c.toNat_lt) hxb;have hxl:y ^^^ xn<256:=Nat.xor_lt_two_pow (n:=8) (by rw[hy];exact c.toNat_lt) hxb;obtain ⟨z,hz⟩:∃ z:UInt8,z.toNat=y ^^^ xn:=⟨UInt8.ofNat (y ^^^ xn),qO hxl⟩;rw[← hz] at hx;have HL2:=hid (znA (j:=j) HOB.o HB1.o z);have HKW:=hid (K2.o.quiet (zd5 (j:=j) (v:=.int .u8 (z.toNat:Int)) HOB.o));have HN2:Box (m=(B.set j z).length):=hid (by rw[List.length_set];exact HM.o);have HLD:=hid (zij (L:=B.set j z) (cp:=c4) (HG.o.quiet HKW.o) (HT.o.kept HKW.o (by simp)) HL2.o (by rw[← HN2.o];exact hc4) (by rw[← HN2.o];omega));rw[← HN2.o] at HLD;clear hz hy hjj hc hxl;go_upto_region 15 with fail;generalize w4.setCell ⟨g,j,none⟩ (.int .u8 (z.toNat:Int))=w5 at *;go_wp2_with fail;refine HLD.o.mono ?_;rintro e w6 ⟨rfl,k6⟩;have K6:=hid (HKW.o.quiet k6);clear k6;go_wp2_with fail;go_ret;exact ⟨rfl,K6.o⟩
 ·have HB1:Box (B=B.take m):=hid (by rw[HM.o,List.take_length])
  have HLD:=hid (zij (L:=B) (cp:=c4) (HG.o.quiet K4.o) (HT.o.kept K4.o (by simp)) (zc1 HOB.o HB1.o) (by rw[← HM.o];exact hc4) (by rw[← HM.o];omega));rw[← HM.o] at HLD;have hat1:decide ((0:Int)≤at0)=false:=decide_eq_false hat0;go_wp2_with fail;refine HLD.o.mono ?_;rintro e w6 ⟨rfl,k6⟩;have K6:=hid (K4.o.quiet k6);clear k6;go_wp2_with fail;go_ret;exact ⟨rfl,K6.o⟩
theorem zme(v:Value)(at0 x:Int)(ra:Option Addr)(rcp:Nat)(RL:List UInt8)(w:World)(hg:JX w)(hT:jS w)(hp:zbs 1048576 w v)(hat:b64 at0)(hx:0≤x∧x<256)(hb:qi w ra RL)(hcp:RL.length≤rcp)(hRL:RL.length≤maxLen):Calls Tryz.prog 5 #[v,int i64 at0,.int .u8 x,.slice ra RL.length rcp] w fun e w'=>e=.returned (.bool true)∧zc [] w w':=by
 obtain ⟨xn,rfl⟩:=Int.eq_ofNat_of_zero_le hx.1;exact zpe hg hT hp hat (by omega) hb hcp hRL
section
open Go.ChangeShapes Go.WideShapes Go.ChangeAt
theorem zep(H:Type)(enc:TypeId × Value→H)(W:World)(base:Nat)(args:Array Value)(ds gs:List (DataW H))(before:List MemPlace)
  (hval:∀ (j:Nat) t v,Tryz.f5.params[j]? = some t→args[j]? = some v→Value.okWide Tryz.prog W .any base t v)
  (hW:DataW.Whole enc Tryz.prog Tryz.f5.params.toList Rows.wfLoadSpec.vars false W args.toList ds gs before) (hL:laidMetH Tryz.prog Rows.wfLoadUptoRow.laid W) (hsm:Rows.uptoBulkAll (ds ++ gs)≤1048576):
  Calls Tryz.prog 5 args W fun e W'=>∃ v,e=.returned v∧Rows.wfLoadSpec.post enc Tryz.prog Tryz.f5 false true false false W args v W':=by
 have hW':=hW;obtain ⟨p,q,hA0,hV,rfl,hfz,hnd⟩:=hW;have hA:DataW.TrodAll enc Tryz.prog W 0 (fun _=>true) true Tryz.f5.params.toList args.toList ds p:=hA0;rw[Tryz.params5] at hA hval;obtain ⟨v0,vs0,d0,ds0,p0,q0,hargs,rfl,rfl,h0,r0⟩:=trodAll_cons hA;obtain ⟨v1,vs1,d1,ds1,p1,q1,rfl,rfl,rfl,h1,r1⟩:=trodAll_cons r0;obtain ⟨v2,vs2,d2,ds2,p2,q2,rfl,rfl,rfl,h2,r2⟩:=trodAll_cons r1;obtain ⟨v3,vs3,d3,ds3,p3,q3,rfl,rfl,rfl,h3,r3⟩:=trodAll_cons r2;obtain ⟨rfl,rfl,rfl⟩:=trodAll_nil r3;obtain rfl:args=#[v0,v1,v2,v3]:=by cases args;simp_all
 obtain ⟨rfl,rfl⟩:=trodVars_none hV;have k0:=h0;have lt0:∀ x∈p0,x.block<W.heap.size:=by obtain ⟨m,hm⟩:=k0;exact DataW.trod_lt m _ _ _ hm
 have hp0:=zb7 (hval 0 23 v0 rfl rfl) h0 (by simp only[List.append_nil,Rows.uptoBulkAll] at hsm;omega);obtain ⟨n1,rfl,rfl,rfl,wn1⟩:=open_int Tryz.underlying3 (hval 1 3 v1 rfl rfl) h1;obtain ⟨n2,rfl,rfl,rfl,wn2⟩:=open_int Tryz.underlying5 (hval 2 5 v2 rfl rfl) h2;have k3:=h3;have lt3:∀ x∈p3,x.block<W.heap.size:=by obtain ⟨m,hm⟩:=k3;exact DataW.trod_lt m _ _ _ hm
 obtain ⟨a3,cap3,l3,rfl,hx3,hc3,hm3⟩:=zfE (hval 3 63 v3 rfl rfl) h3;clear hA0;refine (zme v0 n1 n2 a3 cap3 l3 W (QI hL) (Qn hL) hp0 (zlh wn1) (zoG wn2) hx3 hc3 hm3).mono fun e W' ⟨he,hk⟩=> ?_;subst he;have bel:Below W.heap.size W W':=hk.below (Nat.le_refl _) (by simp);exact ⟨_,rfl,_,_,_,[],_,[],hW',trodAll_mk1 (shut_bool Tryz.underlying4 _),(trodAll_cons_mk (Below.trod zck (by kernel_rfl) (of_decide_eq_true (by kernel_rfl)) k0 bel lt0) (trodAll_cons_mk (shut_int Tryz.underlying3 wn1) (trodAll_cons_mk (shut_int Tryz.underlying5 wn2) (trodAll_cons_mk (Below.trod zck (by kernel_rfl) (of_decide_eq_true (by kernel_rfl)) k3 bel lt3) trodAll_mk0)))),rfl,bel.frame _,fun h=>by cases h⟩
theorem ze5(os:Os):laidMetH Tryz.prog Rows.wfLoadUptoRow.laid ((jO Tryz.prog os).forCall (fun _ _=>0) ⟨#[],(#[Value.pointer none,Value.int .i64 0,Value.int .u8 0,Value.slice none 0 0]:Array Value),[]⟩).memory:=
 laidMetH_of_parts (laidMet_of_run' 8 (by kernel_rfl) (by kernel_rfl)) (by kernel_rfl)
theorem zjA(os:Os){H:Type}(enc:TypeId × Value→H):∃ places,DataW.whole enc Tryz.prog ((jO Tryz.prog os).forCall (fun _ _=>0) ⟨#[],(#[Value.pointer none,Value.int .i64 0,Value.int .u8 0,Value.slice none 0 0]:Array Value),[]⟩).memory Tryz.f5.params.toList Rows.wfLoadSpec.vars false (#[Value.pointer none,Value.int .i64 0,Value.int .u8 0,Value.slice none 0 0]:Array Value).toList 8=some ([.nil,.lit (.int .i64 0),.lit (.int .u8 0),.nil],[],places):=
 ⟨[],by kernel_rfl⟩
theorem zjf(os:Os)(started:os.Started)(H:Type)(enc:TypeId × Value→H)(F:Stop.Interp):
  ReturnsInHanded {} Tryz.checked os 5 .any ((Rows.OpenSpec.upto Rows.wfLoadSpec).preRow enc Tryz.prog Tryz.f5 Rows.wfLoadUptoRow.domain false Rows.wfLoadUptoRow.laid) (((Rows.OpenSpec.upto Rows.wfLoadSpec).at F).post enc Tryz.prog Tryz.f5 false true false false):=by
 obtain ⟨places,hx⟩:=zjA os enc;refine returnsInHanded_of_row (C:=Tryz.checked) (s:=(Rows.OpenSpec.upto Rows.wfLoadSpec)) own started (by kernel_rfl) Tryz.func5
  (witness_row_at (enc:=enc) (C:=Tryz.checked) false (jO Tryz.prog os) (#[Value.pointer none,Value.int .i64 0,Value.int .u8 0,Value.slice none 0 0]:Array Value) rfl (by kernel_rfl) (by kernel_rfl) (by kernel_rfl)
   (OpenSpec.preRow_of_cond 8 hx (by kernel_rfl) (fun k hk=>by cases hk;kernel_rfl) (by kernel_rfl) (ze5 os))) ?_
 intro W base args ds gs before hval hW _ hcond _ hL _ _;exact zep H enc W base args ds gs before hval hW hL (of_decide_eq_true (hcond _ rfl))
theorem wl_said:Rows.WfLoadUptoSaid:=
 OpenClaim.holds_of_cond 5 Tryz.f5 rfl rfl rfl rfl rfl rfl rfl ⟨rfl,rfl,rfl,rfl,rfl⟩ rfl rfl rfl rfl rfl (by kernel_rfl) Tryz.func5 (by kernel_rfl)
  (of_decide_eq_true (by kernel_rfl)) (by unfold Func.isWrapper;first | (rw[if_pos (by decide +kernel)];kernel_rfl) | (rw[if_neg (by decide +kernel)];exact ⟨rfl,rfl⟩))
  (fun os started H enc _ F=>by rw[OpenClaim.pre_eq_preRow];exact zjf os started H enc F)
theorem zjq(f:FuncId)(fn:Func)(hf:Tryz.pinned.checked.prog.funcNamed "haruspex/haruspexlaw12.WfLoad" = some f)(hfn:Tryz.pinned.checked.prog.funcs[f]? = some fn):
  true=Tryz.pinned.checked.prog.looks []∧∀ (j:Nat) t,fn.params[j]? = some t→Tryz.pinned.checked.prog.wantsStandIn t=false:=by
 obtain rfl:f=5:=Option.some.inj ((show Tryz.prog.funcNamed "haruspex/haruspexlaw12.WfLoad" = some 5 by kernel_rfl).symm.trans hf) |>.symm
 obtain rfl:fn=Tryz.f5:=(Option.some.inj (Tryz.func5.symm.trans hfn)).symm;refine ⟨by kernel_rfl,fun j t ht=> ?_⟩;rw[Tryz.params5] at ht;have hm:t=23∨t=3∨t=5∨t=63:=by simpa using Array.mem_of_getElem? ht
 rcases hm with rfl | rfl | rfl | rfl
 ·exact (show Tryz.prog.wantsStandIn 23=false by kernel_rfl)
 ·exact (show Tryz.prog.wantsStandIn 3=false by kernel_rfl)
 ·exact (show Tryz.prog.wantsStandIn 5=false by kernel_rfl)
 ·exact (show Tryz.prog.wantsStandIn 63=false by kernel_rfl)
theorem wfLoadUpto_card:Rows.WfLoadUptoCardSaid:=
 Claim7.holds_tied_plain_at .later [] _ _ _ _ wl_said (fun _ h=>by cases h) (by kernel_rfl) (fun _ h=>by cases h) wfLoadUpto_row_tie rfl ⟨rfl,rfl⟩ (by kernel_rfl) rfl zjq (by kernel_rfl)
#print axioms wfLoadUpto_card
end
end Go.Proofs.YtkgoimokgbdgfaaGreatDoor
