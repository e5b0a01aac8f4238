import Derived.Test.YtkgoimokgbdgfaaGreatDoorV20
import Derived.Test.YtkgoimokgbdgfaaGreatDoorV38

namespace Go.Proofs.YtkgoimokgbdgfaaGreatDoor
open Go.RowKit
open Go.Value (int pointer agg)
open Go.IntKind (i64)
set_option maxRecDepth 20000
set_option maxHeartbeats 8000000
theorem zn5.bnd{P:Pr8}(h:jl P=true):zn5 1048576 P:=by
 unfold jl zgA at h;simp only[Bool.and_eq_true] at h;obtain ⟨⟨-,h0,h1,h2,h3,h4⟩, -⟩:=h;refine ⟨fun j y hy=> ?_,fun j y hy=> ?_,fun j y hy=> ?_,fun j y hy=> ?_,fun j y hy=> ?_⟩
 ·have:=qS h0 hy
  unfold zed at this;simp at this;omega
 ·have:=qS h1 hy
  unfold zdO at this;simp at this;omega
 ·have:=qS h2 hy
  unfold ifB at this;simp at this;omega
 ·have:=qS h3 hy
  unfold imB at this;simp at this;omega
 ·have:=qS h4 hy
  unfold fnB at this;simp only[Bool.and_eq_true] at this;intro k z hz;have h5:=qS this.2.2 hz;unfold zdj at h5;intro m x hx;have h6:=qS h5 hx;unfold zfD at h6;simp at h6;show x.args.length≤1048576;omega
theorem zpH{w:World}{pb po:Nat}{P:Pr8}(hg:JX w)(hT:jS w)(h:PrC w pb po P):Calls Tryz.prog 7 #[pointer (some ⟨pb,po,none⟩)] w fun e w'=>e=.returned (.bool true)∧zc [] w w':=by
 have HG:=hid hg;have HT:=hid hT;have HP:=hid h;have HOK:=hid (PrC.ok h);have HB:=hid (Z0 w hg hT);clear hg hT h;go_enter Tryz.func7,Tryz.ntmps7;go_wp2_with fail;refine HB.o.mono ?_;rintro e w1 ⟨rfl,k1⟩;have K1:=hid k1;clear HB k1;go_upto_region 4 with fail
 go_cut [23] (fun t wz=>∃ s:Bool,t=.bool s∧Box (zc [] w wz)∧Box (s=false→jl P=true∧Sz9 P))
 case first=>
  go_wp2_with fail;refine (J0 (PrC.stays _ _ _ _ _ K1.o HP.o)).mono ?_;rintro e w2 ⟨rfl,k2⟩;have K2:=hid (K1.o.quiet k2);clear k2;cases hb:jl P with
  | false=>
   go_wp2_with fail;go_meet;exact ⟨true,rfl,K2,hid fun e=>by cases e⟩
  | true=>
   have HBN:=hid hb;go_wp2_with fail;refine (Ja (PrC.stays _ _ _ _ _ K2.o HP.o)).mono ?_;rintro e w3 ⟨s,rfl,rfl,hs⟩;have HS:=hid hs;clear hs;cases s with
   | true=>
    go_wp2_with fail;go_meet;exact ⟨false,rfl,K2,hid fun _=>⟨HBN.o,HS.o (by trivial)⟩⟩
   | false=>
    go_wp2_with fail;go_meet;exact ⟨true,rfl,K2,hid fun e=>by cases e⟩
 case rest=>
 obtain ⟨s,rfl,KC,HSM⟩:=hcut;cases s with
 | true=>
  go_wp2_with fail;go_ret;exact ⟨rfl,KC.o⟩
 | false=>
 obtain ⟨hbn,hsz⟩:=HSM.o (by trivial);have HLE:Box ((prE P).length≤35184372088832):=hid (zly HOK.o hsz (zn5.bnd hbn));have HSM2:Box (jl P=true→Sm8 P):=hid fun _=>hsz.sm;clear hbn hsz HSM;go_wp2_with fail;refine (zau (PrC.stays _ _ _ _ _ KC.o HP.o) HSM2.o).mono ?_;rintro e w4 ⟨rfl,k4⟩;obtain ⟨y,f,b,i,hyf⟩:∃ y f b i:Int,(wfO P).getD (0, -1,0,0)=(y,f,b,i):=⟨_,_,_,_,rfl⟩;rw[hyf];go_upto_region 7 with fail;have K5:=hid ((KC.o.quiet k4).quiet (zc.alloc [] w4 (.cells #[int i64 f,int i64 b,int i64 i] 55)));have HYF:=hid hyf;clear k4 hyf;generalize w4.alloc (.cells #[int i64 f,int i64 b,int i64 i] 55)=w5 at *;generalize w4.heap.size=q5 at *;go_wp2_with fail;refine (zbX (PrC.stays _ _ _ _ _ K5.o HP.o) HLE.o).mono ?_;rintro e w6 ⟨v,rfl,a6,c6,rfl,B6,hc6,k6⟩;have K6:=hid (K5.o.quiet k6);have HLD:=hid (JL B6 hc6 (Nat.le_trans HLE.o (by decide)) (HG.o.quiet K6.o) (HT.o.kept K6.o (by simp)));clear B6 k6 hc6;obtain ⟨N,hN⟩:∃ n,n=(prE P).length:=⟨_,rfl⟩;rw[← hN] at HLD ⊢;have HN:=hid hN;clear hN;go_wp2_with fail;refine HLD.o.mono ?_;intro e w7 h7;by_cases hl:20000<N
 ·obtain ⟨p7,rfl,R7,k7⟩:=zhZ (by rw[← HN.o];exact hl) h7
  have K7:=hid (K6.o.quiet k7);have hl':(20000:Int)<(N:Int):=by omega
  clear h7 k7 R7 HLD;go_wp2_with fail;go_ret;exact ⟨rfl,K7.o⟩
 have hl':¬ (20000:Int)<(N:Int):=by omega
 have HL2:Box ((prE P).length≤20000):=hid (by rw[← HN.o];omega);cases ho:wfO P with
 | some z=>
  obtain ⟨⟨hy1,hy2⟩, -⟩:=zmy ho;obtain ⟨p7,r7,rfl,R7,k7⟩:=zdp HOK.o HL2.o ho h7;have hyy:y=z.1:=by
   have:=HYF.o;rw[ho] at this;simp only[Option.getD_some] at this;rw[this]
  rw[← hyy] at R7 hy1;have K7:=hid (K6.o.quiet k7);have HR7:=hid R7;have oy:(y != 0)=true:=by rw[bne_iff_ne];omega
  clear h7 k7 R7 HLD ho hy1 hy2 hyy;go_wp2_with fail;refine (Jz (HG.o.quiet K7.o) HR7.o).mono ?_;rintro e w8 ⟨rfl,k8⟩;have K8:=hid (K7.o.quiet k8);have oyy:(y == y)=true:=by simp
  clear k8;go_wp2_with fail;go_ret;exact ⟨rfl,K8.o⟩
 | none=>
  obtain ⟨b7,rfl,P7,k7⟩:=zd9 HOK.o HL2.o ho h7;have hyy:y=0:=by
   have:=HYF.o;rw[ho] at this;simp only[Option.getD_none,Prod.mk.injEq] at this;exact this.1.symm
  subst hyy;have K7:=hid (K6.o.quiet k7);have HP7:=hid P7;clear h7 k7 P7 HLD ho;go_wp2_with fail;refine (zl1 (PrC.stays _ _ _ _ _ K7.o HP.o) HP7.o HLE.o HLE.o).mono ?_;rintro e w8 ⟨rfl,k8⟩;have K8:=hid (K7.o.quiet k8);have hd:decide (prE P=prE P)=true:=decide_eq_true rfl;rw[hd];clear k8 hd;go_wp2_with fail;go_ret;exact ⟨rfl,K8.o⟩
theorem znE(w:World)(hg:JX w)(hT:jS w):Calls Tryz.prog 7 #[.pointer none] w fun e w'=>e=.returned (.bool true)∧zc [] w w':=by
 have HB:=hid (Z0 w hg hT);clear hg hT;go_enter Tryz.func7,Tryz.ntmps7;go_wp2_with fail;refine HB.o.mono ?_;rintro e w1 ⟨rfl,k1⟩;have K1:=hid k1;clear HB k1;go_wp2_with fail;go_ret;exact ⟨rfl,K1.o⟩
theorem zmt(v:Value)(w:World)(hg:JX w)(hT:jS w)(hp:zbs 17592186044416 w v):Calls Tryz.prog 7 #[v] w fun e w'=>e=.returned (.bool true)∧zc [] w w':=by
 rcases hp with rfl | ⟨b,o,P,rfl,h,_⟩
 ·exact znE w hg hT
 ·exact zpH hg hT h
end Go.Proofs.YtkgoimokgbdgfaaGreatDoor
