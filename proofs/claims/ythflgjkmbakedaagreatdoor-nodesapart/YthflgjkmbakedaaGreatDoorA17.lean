import Derived.Test.YthflgjkmbakedaaGreatDoorA15

namespace Go.Proofs.YthflgjkmbakedaaGreatDoor
open Go.RowKit
open Go.Value (int pointer agg)
open Go.IntKind (i64)
set_option maxRecDepth 20000
set_option maxHeartbeats 8000000
variable {P:Pr8}{b f i k n pb po:Nat}{w:World}
def zcs(P:Pr8)(q:Nat × Nat × Nat):Bool:=
 if q.2.2<(zr (zf P q.1) q.2.1).code.length then zW P (zf P q.1) (zT (zr (zf P q.1) q.2.1) q.2.2)
 else qH (zf P q.1).regs.length (zf P q.1).blocks.length (zr (zf P q.1) q.2.1).fin (zr (zf P q.1) q.2.1).reg (zr (zf P q.1) q.2.1).to (zr (zf P q.1) q.2.1).els
def ptI(q:Nat × Nat × Nat):Int × Int × Int:=(q.1,q.2.1,q.2.2)
def je(P:Pr8)(f:Nat):Bool:=inB (zf P f).sig P.sigs.length && QA P (zf P f).regs
def J5(P:Pr8)(f:Nat):Option (Int × Int × Int):=if je P f then ((ptF (zf P f) f (zf P f).blocks.length).find? fun q=> !zcs P q).map ptI else some (-1,0,0)
def zB(P:Pr8):Option (Int × Int × Int):=
 if zF P then (match (List.range P.funcs.length).findSome? (J5 P) with
  | some q=>some q
  | none=>if inB P.main P.funcs.length then none else some (-1,0,0)) else some (-1,0,0)
theorem zcM(h:i<(zr (zf P f) b).code.length):zcs P (f,b,i)=zW P (zf P f) (zT (zr (zf P f) b) i):=by unfold zcs;rw[if_pos h]
theorem QT(P:Pr8)(f b:Nat):zcs P (f,b,(zr (zf P f) b).code.length)=qH (zf P f).regs.length (zf P f).blocks.length (zr (zf P f) b).fin (zr (zf P f) b).reg (zr (zf P f) b).to (zr (zf P f) b).els:=by unfold zcs;rw[if_neg (by simp)]
theorem zaI{α:Type}{p:α→Bool}{l r:List α}{q:α}(hl:∀ x,x∈l→p x=false)(hq:p q=true):(l ++ q :: r).find? p=some q:=by
 rw[List.find?_append];have h1:l.find? p=none:=List.find?_eq_none.2 fun x hx=>by rw[hl x hx];simp
 rw[h1,List.find?_cons,hq];rfl
theorem zbY{α:Type}{p:α→Bool}{l:List α}(hl:∀ x,x∈l→p x=false):l.find? p=none:=List.find?_eq_none.2 fun x hx=>by rw[hl x hx];simp
def j9(P:Pr8)(l:List (Nat × Nat × Nat)):Prop:=∀ q,q∈l→zcs P q=true
theorem j9.nil(P:Pr8):j9 P []:=fun q hq=>by cases hq
theorem j9.snoc{l:List (Nat × Nat × Nat)}{q:Nat × Nat × Nat}(h:j9 P l)(hq:zcs P q=true):j9 P (l ++ [q]):=fun x hx=>by
 rcases List.mem_append.1 hx with h1 | h1
 ·exact h x h1
 ·rw[List.mem_singleton.1 h1];exact hq
theorem j9.cast{l l':List (Nat × Nat × Nat)}(h:j9 P l)(e:l=l'):j9 P l':=e ▸ h
theorem zbQ(h:k<n):∃ r,List.range n=List.range k ++ k :: r:=by
 refine ⟨(List.range n).drop (k+1),?_⟩;have h2:=List.take_append_drop k (List.range n);rw[List.drop_eq_getElem_cons (by simpa using h),List.getElem_range] at h2
 conv=>lhs;rw[← h2]
 congr 1
 rw[List.take_range,Nat.min_eq_left (by omega)]
theorem zle(f b:Nat)(h:i<n):∃ r,ptB f b n=ptB f b i ++ (f,b,i) :: r:=by
 obtain ⟨r,hr⟩:=zbQ h;refine ⟨r.map fun j=>(f,b,j),?_⟩;unfold ptB;rw[hr,List.map_append,List.map_cons]
theorem zdn(hh:je P f=true)(hb:b<(zf P f).blocks.length)(hi:i≤(zr (zf P f) b).code.length)(hl:j9 P (ptF (zf P f) f b ++ ptB f b i))(hq:zcs P (f,b,i)=false):J5 P f=some ((f:Int),(b:Int),(i:Int)):=by
 unfold J5;rw[if_pos hh];obtain ⟨r1,h1⟩:=JX (zf P f) f hb;obtain ⟨r2,h2⟩:=zle f b (show i<(zr (zf P f) b).code.length+1 by omega);rw[h1,h2,show ptF (zf P f) f b ++ (ptB f b i ++ (f,b,i) :: r2 ++ r1)=(ptF (zf P f) f b ++ ptB f b i) ++ (f,b,i) :: (r2 ++ r1) by simp[List.append_assoc]];rw[zaI (fun x hx=>by rw[hl x hx];rfl) (by rw[hq];rfl)];rfl
theorem zbT(hh:je P f=true)(hl:j9 P (ptF (zf P f) f (zf P f).blocks.length)):J5 P f=none:=by
 unfold J5;rw[if_pos hh,zbY (fun x hx=>by rw[hl x hx];rfl)];rfl
theorem JT(hh:je P f=false):J5 P f=some (-1,0,0):=by
 unfold J5;rw[hh];rfl
theorem zeu{α β:Type}{p:α→Option β}{l r:List α}{q:α}{y:β}(hl:∀ x,x∈l→p x=none)(hq:p q=some y):(l ++ q :: r).findSome? p=some y:=by
 rw[List.findSome?_append];have h1:l.findSome? p=none:=List.findSome?_eq_none_iff.2 hl;rw[h1,List.findSome?_cons,hq];rfl
theorem Jg(h:zF P=false):zB P=some (-1,0,0):=by unfold zB;rw[h];rfl
theorem zbN(h:zF P=true)(hk:k<P.funcs.length)(hl:∀ j,j<k→J5 P j=none){q:Int × Int × Int}(hq:J5 P k=some q):zB P=some q:=by
 unfold zB;obtain ⟨r,hr⟩:=zbQ hk;rw[if_pos h,hr,zeu (fun x hx=>hl x (List.mem_range.1 hx)) hq]
theorem za6(h:zF P=true)(hl:∀ j,j<P.funcs.length→J5 P j=none):zB P=if inB P.main P.funcs.length then none else some (-1,0,0):=by
 unfold zB;rw[if_pos h,List.findSome?_eq_none_iff.2 (fun x hx=>hl x (List.mem_range.1 hx))]
def Z5(o:Option (Int × Int × Int))(y:Int)(w:World)(e:Ending)(w':World):Prop:=match o with
 | none=>e=.returned .nilIface∧zc [] w w'
 | some q=>Jj y q.1 q.2.1 q.2.2 w e w'
theorem Z5.no{o:Option (Int × Int × Int)}{q:Int × Int × Int}{y:Int}{w':World}{e:Ending}(h:o=some q)(r:Jj y q.1 q.2.1 q.2.2 w e w'):Z5 o y w e w':=by subst h;exact r
theorem Z5.yes{o:Option (Int × Int × Int)}{y:Int}{w':World}{e:Ending}(h:o=none)(r:e=.returned .nilIface∧zc [] w w'):Z5 o y w e w':=by subst h;exact r
def zjI(P:Pr8):Prop:=∀ f b i,f<P.funcs.length→b<(zf P f).blocks.length→i<(zr (zf P f) b).code.length→(zT (zr (zf P f) b) i).args.length≤1000
theorem zdP(h:PrC w pb po P)(ha:zjI P)(hf:f<P.funcs.length):Calls Tryz.prog 122 #[pointer (some ⟨pb,po,none⟩),int i64 (f:Int)] w (Z5 (J5 P f) 3 w):=by
 obtain ⟨fa,fp,c4,r4,_,hfl⟩:=h.c4;obtain ⟨sa,sp,c1,_⟩:=h.c1;obtain ⟨fb,fo,rfl,hfu0⟩:=r4.at (zg (d:=⟨0,[],[]⟩) hf);have hfu:FuC w fb (fo+f * 3) (zf P f):=hfu0;obtain ⟨ra,rp,e1,q1⟩:=hfu.c1.val;obtain ⟨ba,bp,e2,rb,_,hbl⟩:=hfu.c2;have e0:=hfu.c0.1;have hf':(f:Int)<(P.funcs.length:Int):=by omega
 have HW:=hid fun (w':World)=>z6 (zf P f).sig P.sigs.length w';have HT:=hid fun (w':World) (k:zc [] w w')=>Ju (PrC.stays _ _ _ _ _ k h) (q1.keeps TyC.stays k);have HRF:=hid fun (w':World)=>ZB 3 w';have HRA:=hid fun (b i:Int) (w':World)=>Zx 3 (f:Int) b i w';have HIN:=hid fun (w':World) (k:zc [] w w') (x:In8) (a:Option Addr) (cp:Nat) (hz:zw w' a x.args) (hl:x.args.length≤1000)=>zhr (cp:=cp) (PrC.stays _ _ _ _ _ k h) (FuC.stays _ _ _ _ _ k hfu) x hz hl;have HEN:=hid fun (w':World) (k:zc [] w w') (bb bo:Nat) (y:Bl8) (hb:BlC w' bb bo y)=>zj2 (FuC.stays _ _ _ _ _ k hfu) hb;have HA:Box (∀ b i,b<(zf P f).blocks.length→i<(zr (zf P f) b).code.length→(zT (zr (zf P f) b) i).args.length≤1000):=hid fun b i h1 h2=>ha f b i hf h1 h2;have HRB:=hid rb;have HH:Box (je P f=(inB (zf P f).sig P.sigs.length && QA P (zf P f).regs)):=hid rfl;have HBAD:=hid fun (hh:je P f=true) (b i:Nat)=>zdn (P:=P) (f:=f) (b:=b) (i:=i) hh;have HGOOD:=hid fun (hh:je P f=true)=>zbT (P:=P) (f:=f) hh;have HHD:=hid (JT (P:=P) (f:=f));have E2:Box (∀ w',zc [] w w'→w'.cell? ⟨fb,fo+f * 3+2,none⟩=some (.slice ba (zf P f).blocks.length bp)):=hid fun w' k=>za k e2;have E1:Box (∀ w',zc [] w w'→w'.cell? ⟨fb,fo+f * 3+1,none⟩=some (.slice ra (zf P f).regs.length rp)):=hid fun w' k=>za k e1;have E0:Box (∀ w',zc [] w w'→w'.cell? ⟨fb,fo+f * 3,none⟩=some (int i64 (zf P f).sig)):=hid fun w' k=>za k e0;have S1:Box (∀ w',zc [] w w'→w'.cell? ⟨pb,po+1,none⟩=some (.slice sa P.sigs.length sp)):=hid fun w' k=>za k c1;clear h hfu0 hfu r4 rb ha;obtain ⟨bn,hbn⟩:∃ m,m=(zf P f).blocks.length:=⟨_,rfl⟩;rw[← hbn] at E2 hbl e2;have HBN:=hid hbn;have hbl9:(bn:Int)≤9223372036854775807:=by unfold maxLen at hbl;omega
 generalize P.funcs.length=FN at *;generalize P.sigs.length=SN at *;generalize hsg:(zf P f).sig=sg at *;obtain ⟨RN,hrn⟩:∃ m,m=(zf P f).regs.length:=⟨_,rfl⟩;rw[← hrn] at E1 e1 HT;have HRN:=hid hrn;clear hrn;clear hbn hsg hbl;cases hw:inB sg SN with
 | false=>
  rw[hw] at HW;rw[HHD.o (by rw[HH.o,hw];rfl)];clear hw;go_enter Tryz.func122,Tryz.ntmps122;go_upto_region 2 with fail;go_quiet ((go_at_call 123;exact Calls.quiet_of_same (HW.o _)));go_wp2_with fail;refine (HRF.o _).mono ?_;rintro e w1 ⟨p,rfl,h1,h2⟩;go_wp2_with fail;go_ret;exact ⟨p,rfl,h1,(zc.drewN _ _ _).quiet h2⟩
 | true=>
  rw[hw] at HW;go_enter Tryz.func122,Tryz.ntmps122;go_upto_region 2 with fail;cases ht:QA P (zf P f).regs with
  | false=>
   rw[ht] at HT;have HQ:=hid (HHD.o (by rw[HH.o,hw,ht];rfl));clear hw ht
   go_region_held3 (fun w'=>w'.cell? ⟨pb,po+1,none⟩=some (.slice sa SN sp)∧w'.cell? ⟨fb,fo+f * 3,none⟩=some (int i64 sg)∧w'.cell? ⟨fb,fo+f * 3+1,none⟩=some (.slice ra RN rp)) (go_keep) (first
    | (go_at_call 123;refine (HW.o _).mono ?_;rintro e w5 ⟨rfl,hw5⟩;have K5:zc [] w w5:=(by rw[hw5];exact zc.drew _ _);have f51:=S1.o _ K5;have f52:=E0.o _ K5;have f53:=E1.o _ K5;clear hw5)
    | (go_at_call 189;refine (HT.o _ K5).mono ?_;rintro e w6 ⟨rfl,k6⟩;have K6:=K5.quiet k6;have f61:=S1.o _ K6;have f62:=E0.o _ K6;have f63:=E1.o _ K6;clear k6))
   go_wp2_with fail;refine (HRF.o _).mono ?_;rintro e w1 ⟨p,rfl,h1,h2⟩;go_wp2_with fail;go_ret;exact Z5.no HQ.o ⟨p,rfl,h1,K6.quiet h2⟩
  | true=>
   rw[ht] at HT;have HHT:Box (je P f=true):=hid (by rw[HH.o,hw,ht];rfl);clear hw ht
   go_region_held3 (fun w'=>w'.cell? ⟨pb,po+1,none⟩=some (.slice sa SN sp)∧w'.cell? ⟨fb,fo+f * 3,none⟩=some (int i64 sg)∧w'.cell? ⟨fb,fo+f * 3+1,none⟩=some (.slice ra RN rp)) (go_keep) (first
    | (go_at_call 123;refine (HW.o _).mono ?_;rintro e w5 ⟨rfl,hw5⟩;have K5:zc [] w w5:=(by rw[hw5];exact zc.drew _ _);have f51:=S1.o _ K5;have f52:=E0.o _ K5;have f53:=E1.o _ K5;clear hw5)
    | (go_at_call 189;refine (HT.o _ K5).mono ?_;rintro e w6 ⟨rfl,k6⟩;have K6:=K5.quiet k6;have f61:=S1.o _ K6;have f62:=E0.o _ K6;have f63:=E1.o _ K6;have HK6:=hid K6;have g2:=E2.o _ K6;clear k6))
   go_wp2_with fail;clear f51 f52 f53 f61 f62 f63 K5 K6 g2;clear e0 e1 e2 c1 c4 hf'
   go_loopw [41] (fun bv wr=>∃ b:Nat,b≤bn∧bv=int i64 (b:Int)∧Box (zc [] w wr)∧Box (j9 P (ptF (zf P f) f b))) (fun bv _=>bn - (intOf bv).toNat)
   case atStart=>exact ⟨0,by omega,rfl,HK6,hid (j9.nil P)⟩
   case round=>
    obtain ⟨b,hb,rfl,HK,HAL⟩:=hrel;clear HK6;by_cases hlt:b<bn
    ·have hlt':(b:Int)<(bn:Int):=by omega
     have hbf:Box (b<(zf P f).blocks.length):=hid (by rw[← HBN.o];exact hlt);have g2:=E2.o _ HK.o;obtain ⟨bb,bo,rfl,hbl0⟩:=HRB.o.at (show (zf P f).blocks[b]? = some (zr (zf P f) b) from zg hbf.o);have HBL:=hid hbl0;obtain ⟨ca,cp,e3,rc,_,hcl⟩:=hbl0.c0;have E3:=za HK.o e3;have E3B:Box (∀ w',zc [] w w'→w'.cell? ⟨bb,bo+b * 5,none⟩=some (.slice ca (zr (zf P f) b).code.length cp)):=hid fun w' k=>za k e3;have HRC:=hid rc;obtain ⟨cn,hcn⟩:∃ m,m=(zr (zf P f) b).code.length:=⟨_,rfl⟩;rw[← hcn] at E3 hcl;have HCN:=hid hcn;have hcl9:(cn:Int)≤9223372036854775807:=by unfold maxLen at hcl;omega
     have HAL2:Box (j9 P (ptF (zf P f) f b ++ ptB f b 0)):=hid (HAL.o.cast (by rw[QN,List.append_nil]));clear hbl0 e3 rc hcn hcl;go_wp2_with fail;clear g2 E3;have HK0:=HK;clear HK
     go_loopw [54] (fun iv wr=>∃ i:Nat,i≤cn∧iv=int i64 (i:Int)∧Box (zc [] w wr)∧Box (j9 P (ptF (zf P f) f b ++ ptB f b i))) (fun iv _=>cn - (intOf iv).toNat)
     case atStart=>exact ⟨0,by omega,rfl,HK0,HAL2⟩
     case round=>
      obtain ⟨i,hi,rfl,HK,HAL⟩:=hrel;clear HK0 HAL2;by_cases hli:i<cn
      ·have hli':(i:Int)<(cn:Int):=by omega
       have hif:Box (i<(zr (zf P f) b).code.length):=hid (by rw[← HCN.o];exact hli);obtain ⟨ib,io,rfl,hin⟩:=HRC.o.at (show (zr (zf P f) b).code[i]? = some (zT (zr (zf P f) b) i) from zg hif.o);obtain ⟨ga,gp,e5,q5⟩:=SlC.val hin.c5;have hz:zw w ga (zT (zr (zf P f) b) i).args:=jL q5.slice.2.1;have F0:=za HK.o hin.c0.1;have F1:=za HK.o hin.c1.1;have F2:=za HK.o hin.c2.1;have F3:=za HK.o hin.c3.1;have F4:=za HK.o hin.c4.1;have F5:=za HK.o e5;have HC:=hid (HIN.o wr HK.o (zT (zr (zf P f) b) i) ga gp (hz.kept HK.o (fun _ _ _=>by simp)) (HA.o b i hbf.o hif.o));have HPT:=hid (zcM (P:=P) (f:=f) (b:=b) hif.o);have HSN:Box (ptF (zf P f) f b ++ ptB f b (i+1)=(ptF (zf P f) f b ++ ptB f b i) ++ [(f,b,i)]):=hid (by rw[jB, ← List.append_assoc]);unfold z8 at HC;clear hin e5 q5 hz;cases hok:zW P (zf P f) (zT (zr (zf P f) b) i) with
       | true=>
        rw[hok] at HC;have HAL9:Box (j9 P (ptF (zf P f) f b ++ ptB f b (i+1))):=hid ((HAL.o.snoc (q:=(f,b,i)) (by rw[HPT.o,hok])).cast HSN.o.symm);clear hok;go_wp2_with fail;refine HC.o.mono ?_;rintro e w3 ⟨rfl,k3⟩;have K3:=hid (HK.o.quiet k3);clear k3;go_wp2_with fail;go_roundw
        case rel=>exact ⟨i+1,by omega,by go_num,K3,HAL9⟩
        case measure=>simp[intOf];omega
       | false=>
        rw[hok] at HC;have HQ:=hid (HBAD.o HHT.o b i hbf.o (Nat.le_of_lt hif.o) HAL.o (by rw[HPT.o,hok]));clear hok;go_wp2_with fail;refine HC.o.mono ?_;rintro e w3 ⟨rfl,k3⟩;have K3:=hid (HK.o.quiet k3);clear k3;go_wp2_with fail;refine (HRA.o _ _ _).mono ?_;rintro e w4 ⟨p,rfl,h1,h2⟩;go_wp2_with fail;go_ret;exact Z5.no HQ.o ⟨p,rfl,h1,K3.o.quiet h2⟩
      ·obtain rfl:i=cn:=by omega
       have g2:=E2.o _ HK.o;have HC:=hid (HEN.o wr HK.o bb (bo+b * 5) (zr (zf P f) b) (BlC.stays _ _ _ _ _ HK.o HBL.o));have HPT:=hid (QT P f b);generalize qH (zf P f).regs.length (zf P f).blocks.length (zr (zf P f) b).fin (zr (zf P f) b).reg (zr (zf P f) b).to (zr (zf P f) b).els=eb at *;cases eb with
       | true=>
        have HAL9:Box (j9 P (ptF (zf P f) f (b+1))):=hid ((HAL.o.snoc (q:=(f,b,i)) (by rw[HCN.o,HPT.o])).cast (by rw[qX, ← HCN.o,jB, ← List.append_assoc]));go_wp2_with fail;refine HC.o.mono ?_;rintro e w3 ⟨rfl,k3⟩;have K3:=hid (HK.o.quiet k3);clear k3;go_wp2_with fail;go_roundw
        case rel=>exact ⟨b+1,by omega,by go_num,K3,HAL9⟩
        case measure=>simp[intOf];omega
       | false=>
        have HQ:=hid (HBAD.o HHT.o b i hbf.o (by rw[HCN.o];exact Nat.le_refl _) HAL.o (by rw[HCN.o,HPT.o]));go_wp2_with fail;refine HC.o.mono ?_;rintro e w3 ⟨rfl,k3⟩;have K3:=hid (HK.o.quiet k3);clear k3;go_wp2_with fail;refine (HRA.o _ _ _).mono ?_;rintro e w4 ⟨p,rfl,h1,h2⟩;go_wp2_with fail;go_ret;exact Z5.no HQ.o ⟨p,rfl,h1,K3.o.quiet h2⟩
    ·obtain rfl:b=bn:=by omega
     have HQ:=hid (HGOOD.o HHT.o (HAL.o.cast (by rw[HBN.o])));go_wp2_with fail;go_ret;exact Z5.yes HQ.o ⟨rfl,HK.o⟩
theorem zkZ(h:P.recs.all (QA P)=false):zF P=false:=by unfold zF;rw[h];rfl
theorem zft(h:P.sigs.all (ze7 P)=false):zF P=false:=by unfold zF;rw[h];simp
theorem zk8(h:P.ifs.all (fun l=>Zp l P.sigs.length)=false):zF P=false:=by unfold zF;rw[h];simp
theorem zcU(h:P.ims.all (zec P)=false):zF P=false:=by unfold zF;rw[h];simp
theorem ze4(h:PrC w pb po P):Calls Tryz.prog 121 #[pointer (some ⟨pb,po,none⟩)] w fun e w'=>e=.returned (.bool (zF P))∧zc [] w w':=by
 obtain ⟨a0,p0,c0,r0,_,l0⟩:=h.c0;have R0:=hid r0;obtain ⟨n0,hn0⟩:∃ n,n=P.recs.length:=⟨_,rfl⟩;rw[← hn0] at c0 l0;have N0:=hid hn0;have m0:(n0:Int)≤9223372036854775807:=by unfold maxLen at l0;omega
 have C0:Box (∀ w',zc [] w w'→w'.cell? ⟨pb,po,none⟩=some (.slice a0 n0 p0)):=hid (by have c:=c0;exact fun w' k=>za k c);obtain ⟨a1,p1,c1,r1,_,l1⟩:=h.c1;have R1:=hid r1;obtain ⟨n1,hn1⟩:∃ n,n=P.sigs.length:=⟨_,rfl⟩;rw[← hn1] at c1 l1;have N1:=hid hn1;have m1:(n1:Int)≤9223372036854775807:=by unfold maxLen at l1;omega
 have C1:Box (∀ w',zc [] w w'→w'.cell? ⟨pb,po+1,none⟩=some (.slice a1 n1 p1)):=hid (by have c:=c1;exact fun w' k=>za k c);obtain ⟨a2,p2,c2,r2,_,l2⟩:=h.c2;have R2:=hid r2;obtain ⟨n2,hn2⟩:∃ n,n=P.ifs.length:=⟨_,rfl⟩;rw[← hn2] at c2 l2;have N2:=hid hn2;have m2:(n2:Int)≤9223372036854775807:=by unfold maxLen at l2;omega
 have C2:Box (∀ w',zc [] w w'→w'.cell? ⟨pb,po+2,none⟩=some (.slice a2 n2 p2)):=hid (by have c:=c2;exact fun w' k=>za k c);obtain ⟨a3,p3,c3,r3,_,l3⟩:=h.c3;have R3:=hid r3;obtain ⟨n3,hn3⟩:∃ n,n=P.ims.length:=⟨_,rfl⟩;rw[← hn3] at c3 l3;have N3:=hid hn3;have m3:(n3:Int)≤9223372036854775807:=by unfold maxLen at l3;omega
 have C3:Box (∀ w',zc [] w w'→w'.cell? ⟨pb,po+3,none⟩=some (.slice a3 n3 p3)):=hid (by have c:=c3;exact fun w' k=>za k c);obtain ⟨a4,p4,c4,r4,_,l4⟩:=h.c4;have R4:=hid r4;obtain ⟨n4,hn4⟩:∃ n,n=P.funcs.length:=⟨_,rfl⟩;rw[← hn4] at c4 l4;have N4:=hid hn4;have m4:(n4:Int)≤9223372036854775807:=by unfold maxLen at l4;omega
 have C4:Box (∀ w',zc [] w w'→w'.cell? ⟨pb,po+4,none⟩=some (.slice a4 n4 p4)):=hid (by have c:=c4;exact fun w' k=>za k c);have HT:=hid fun (w':World) (k:zc [] w w') (v:Value) (l:List (Int × Int)) (hv:zlv w v l)=>Ju (PrC.stays _ _ _ _ _ k h) (hv.keeps TyC.stays k);have HTY:=hid fun (w':World) (k:zc [] w w') (t:Int × Int)=>Jm (PrC.stays _ _ _ _ _ k h) t;have HW:=hid fun (k:Int) (n:Nat) (w':World)=>z6 k n w';have HAW:=hid fun (w':World) (k:zc [] w w') (a:Option Addr) (cp:Nat) (l:List Int) (hz:zw w a l) (hl:l.length≤maxLen) (m:Nat)=>QF (cp:=cp) (hz.kept k (fun _ _ _=>by simp)) hl m;clear r0 r1 r2 r3 r4 hn0 hn1 hn2 hn3 hn4 l0 l1 l2 l3 l4 h m4;go_enter Tryz.func121,Tryz.ntmps121;go_wp2_with fail;have K0:=hid (zc.refl [] w);clear c1 c2 c3 c4
 go_loopw [16] (fun kv wr=>∃ k:Nat,k≤n0∧kv=int i64 (k:Int)∧Box (zc [] w wr)∧Box (∀ j y,j<k→P.recs[j]? = some y→QA P y=true)) (fun kv _=>n0 - (intOf kv).toNat)
 case atStart=>exact ⟨0,by omega,rfl,K0,hid fun j y hj=>by omega⟩
 case round=>
  obtain ⟨k,hk,rfl,HK,HB⟩:=hrel;clear K0 c0;by_cases hlt:k<n0
  ·have hlt':(k:Int)<(n0:Int):=by omega
   obtain ⟨y,hy⟩:∃ y,P.recs[k]? = some y:=⟨_,List.getElem?_eq_getElem (by rw[← N0.o];exact hlt)⟩;obtain ⟨b,off,rfl,hc⟩:=R0.o.at hy;rw[Nat.mul_one] at hc;obtain ⟨ga,gp,e5,q5⟩:=hc.val;have d5:=za HK.o e5;have HC:=hid (HT.o wr HK.o _ _ q5);clear e5 q5;have HY:=hid hy;clear hy hc;have REL:Box (QA P y=true→∀ j z,j<k+1→P.recs[j]? = some z→QA P z=true):=hid fun hg j z hj hz=>by
    by_cases e:j<k
    ·exact HB.o j z e hz
    ·obtain rfl:j=k:=by omega
     rw[HY.o] at hz;cases hz;exact hg
   cases hg:QA P y with
   | true=>
    rw[hg] at HC;have HG:=hid hg;clear hg;go_wp2_with fail;refine HC.o.mono ?_;rintro e w3 ⟨rfl,k3⟩;have K3:=hid (HK.o.quiet k3);clear k3;go_wp2_with fail;go_roundw
    case rel=>exact ⟨k+1,by omega,by go_num,K3,hid (REL.o HG.o)⟩
    case measure=>simp[intOf];omega
   | false=>
    rw[hg] at HC;have HE:Box (zF P=false):=hid (zkZ (j7 HY.o hg));clear hg;go_wp2_with fail;refine HC.o.mono ?_;rintro e w3 ⟨rfl,k3⟩;have K3:=hid (HK.o.quiet k3);clear k3;go_wp2_with fail;go_ret;exact ⟨by rw[HE.o];rfl,K3.o⟩
  ·obtain rfl:n0=k:=by omega
   have T0:Box (P.recs.all (QA P)=true):=hid (qW (fun j y hy=>HB.o j y (by rw[N0.o];exact (List.getElem?_eq_some_iff.1 hy).1) hy));have c1:=C1.o _ HK.o;clear HB hk;go_wp2_with fail;clear hlt;have K1:=HK;clear HK
   go_loopw [30] (fun kv wr=>∃ k:Nat,k≤n1∧kv=int i64 (k:Int)∧Box (zc [] w wr)∧Box (∀ j y,j<k→P.sigs[j]? = some y→ze7 P y=true)) (fun kv _=>n1 - (intOf kv).toNat)
   case atStart=>exact ⟨0,by omega,rfl,K1,hid fun j y hj=>by omega⟩
   case round=>
    obtain ⟨k,hk,rfl,HK,HB⟩:=hrel;clear K1 c1;by_cases hlt:k<n1
    ·have hlt':(k:Int)<(n1:Int):=by omega
     obtain ⟨y,hy⟩:∃ y,P.sigs[k]? = some y:=⟨_,List.getElem?_eq_getElem (by rw[← N1.o];exact hlt)⟩;obtain ⟨b,off,rfl,hc⟩:=R1.o.at hy;obtain ⟨ga,gp,e5,q5⟩:=hc.c0.val;have d0:=za HK.o e5;have d1:=za HK.o hc.c1.1;have d2:=za HK.o hc.c2.1;have HN:=hid (zh wr (.cells #[.slice ga y.1.length gp,int i64 y.2.1,int i64 y.2.2] 59));have HKA:=hid (HK.o.quiet (zc.alloc [] wr (.cells #[.slice ga y.1.length gp,int i64 y.2.1,int i64 y.2.2] 59)));have HC:=hid (HT.o _ HKA.o _ _ q5);have HSG:Box (ze7 P y=(QA P y.1 && tyB P y.2)):=hid rfl;clear e5 q5;have HY:=hid hy;clear hy hc;have REL:Box (ze7 P y=true→∀ j z,j<k+1→P.sigs[j]? = some z→ze7 P z=true):=hid fun hg j z hj hz=>by
      by_cases e:j<k
      ·exact HB.o j z e hz
      ·obtain rfl:j=k:=by omega
       rw[HY.o] at hz;cases hz;exact hg
     go_upto_region 10 with fail;generalize wr.alloc (.cells #[.slice ga y.1.length gp,int i64 y.2.1,int i64 y.2.2] 59)=w2 at *;generalize wr.heap.size=q at *;have s0:=zd HN.o 0;cases h1:QA P y.1 with
     | false=>
      rw[h1] at HC;have HE:Box (zF P=false):=hid (zft (j7 HY.o (by rw[HSG.o,h1];rfl)));clear h1;go_wp2_with fail;refine HC.o.mono ?_;rintro e w3 ⟨rfl,k3⟩;have K3:=hid (HKA.o.quiet k3);clear k3;go_wp2_with fail;go_ret;exact ⟨by rw[HE.o];rfl,K3.o⟩
     | true=>
      rw[h1] at HC;go_wp2_with fail;refine HC.o.mono ?_;rintro e w3 ⟨rfl,k3⟩;have K3:=hid (HKA.o.quiet k3);have h3:=ze HN.o k3;have s1:=zd h3 1;have s2:=zd h3 2;have HC2:=hid (HTY.o w3 K3.o y.2);clear k3 h3 s0;cases h2:tyB P y.2 with
      | false=>
       rw[h2] at HC2;have HE:Box (zF P=false):=hid (zft (j7 HY.o (by rw[HSG.o,h1,h2];rfl)));clear h1 h2;go_wp2_with fail;refine HC2.o.mono ?_;rintro e w4 ⟨rfl,k3⟩;have K4:=hid (K3.o.quiet k3);clear k3;go_wp2_with fail;go_ret;exact ⟨by rw[HE.o];rfl,K4.o⟩
      | true=>
       rw[h2] at HC2;have HG:Box (ze7 P y=true):=hid (by rw[HSG.o,h1,h2];rfl);clear h1 h2;go_wp2_with fail;refine HC2.o.mono ?_;rintro e w4 ⟨rfl,k3⟩;have K4:=hid (K3.o.quiet k3);clear k3;go_wp2_with fail;go_roundw
       case rel=>exact ⟨k+1,by omega,by go_num,K4,hid (REL.o HG.o)⟩
       case measure=>simp[intOf];omega
    ·obtain rfl:n1=k:=by omega
     have T1:Box (P.sigs.all (ze7 P)=true):=hid (qW (fun j y hy=>HB.o j y (by rw[N1.o];exact (List.getElem?_eq_some_iff.1 hy).1) hy));have c2:=C2.o _ HK.o;clear HB hk;go_wp2_with fail;clear hlt;have K2:=HK;clear HK
     go_loopw [52] (fun kv wr=>∃ k:Nat,k≤n2∧kv=int i64 (k:Int)∧Box (zc [] w wr)∧Box (∀ j y,j<k→P.ifs[j]? = some y→Zp y P.sigs.length=true)) (fun kv _=>n2 - (intOf kv).toNat)
     case atStart=>exact ⟨0,by omega,rfl,K2,hid fun j y hj=>by omega⟩
     case round=>
      obtain ⟨k,hk,rfl,HK,HB⟩:=hrel;clear K2 c2;by_cases hlt:k<n2
      ·have hlt':(k:Int)<(n2:Int):=by omega
       obtain ⟨y,hy⟩:∃ y,P.ifs[k]? = some y:=⟨_,List.getElem?_eq_getElem (by rw[← N2.o];exact hlt)⟩;obtain ⟨b,off,rfl,hc⟩:=R2.o.at hy;rw[Nat.mul_one] at hc;obtain ⟨ga,gp,e5,q5⟩:=SlC.val hc;have d0:=za HK.o e5;have HN:=hid (zh wr (.cells #[.slice ga y.length gp] 38));have HKA:=hid (HK.o.quiet (zc.alloc [] wr (.cells #[.slice ga y.length gp] 38)));have HZ:=hid (jL q5.slice.2.1);have HL:=hid q5.slice.2.2.2;clear e5 q5;have HY:=hid hy;clear hy hc;have REL:Box (Zp y P.sigs.length=true→∀ j z,j<k+1→P.ifs[j]? = some z→Zp z P.sigs.length=true):=hid fun hg j z hj hz=>by
        by_cases e:j<k
        ·exact HB.o j z e hz
        ·obtain rfl:j=k:=by omega
         rw[HY.o] at hz;cases hz;exact hg
       go_upto_region 16 with fail;generalize wr.alloc (.cells #[.slice ga y.length gp] 38)=w2 at *;generalize wr.heap.size=q at *;have s0:=zd HN.o 0;have c1:=C1.o _ HKA.o;have HC:=hid fun (m:Nat)=>HAW.o (w2.drewN m) (HKA.o.quiet (zc.drewN _ _ _)) ga gp y HZ.o HL.o P.sigs.length;rw[← N1.o] at HC REL;cases hg:Zp y n1 with
       | true=>
        rw[hg] at HC;have HG:=hid hg;clear hg;go_quiet ((go_at_call 191;exact Calls.quiet_of_same (HC.o _)));go_wp2_with fail;go_roundw
        case rel=>exact ⟨k+1,by omega,by go_num,hid (HKA.o.quiet (zc.drewN _ _ _)),hid (by rw[← N1.o];exact REL.o HG.o)⟩
        case measure=>simp[intOf];omega
       | false=>
        rw[hg] at HC;have HE:Box (zF P=false):=hid (zk8 (j7 HY.o (by rw[← N1.o];exact hg)));clear hg;go_quiet ((go_at_call 191;exact Calls.quiet_of_same (HC.o _)));go_wp2_with fail;go_ret;exact ⟨by rw[HE.o];rfl,HKA.o.quiet (zc.drewN _ _ _)⟩
      ·obtain rfl:n2=k:=by omega
       have T2:Box (P.ifs.all (fun l=>Zp l P.sigs.length)=true):=hid (qW (fun j y hy=>HB.o j y (by rw[N2.o];exact (List.getElem?_eq_some_iff.1 hy).1) hy));have c3:=C3.o _ HK.o;clear HB hk;go_wp2_with fail;clear hlt;have K3:=HK;clear HK
       go_loopw [71] (fun kv wr=>∃ k:Nat,k≤n3∧kv=int i64 (k:Int)∧Box (zc [] w wr)∧Box (∀ j y,j<k→P.ims[j]? = some y→zec P y=true)) (fun kv _=>n3 - (intOf kv).toNat)
       case atStart=>exact ⟨0,by omega,rfl,K3,hid fun j y hj=>by omega⟩
       case round=>
        obtain ⟨k,hk,rfl,HK,HB⟩:=hrel;clear K3 c3;by_cases hlt:k<n3
        ·have hlt':(k:Int)<(n3:Int):=by omega
         obtain ⟨y,hy⟩:∃ y,P.ims[k]? = some y:=⟨_,List.getElem?_eq_getElem (by rw[← N3.o];exact hlt)⟩;obtain ⟨b,off,rfl,hc⟩:=R3.o.at hy;obtain ⟨ga,gp,e5,q5⟩:=SlC.val hc.c2;have d0:=za HK.o hc.c0.1;have d1:=za HK.o hc.c1.1;have d2:=za HK.o e5;have HN:=hid (zh wr (.cells #[int i64 y.1,int i64 y.2.1,.slice ga y.2.2.length gp] 61));have HKA:=hid (HK.o.quiet (zc.alloc [] wr (.cells #[int i64 y.1,int i64 y.2.1,.slice ga y.2.2.length gp] 61)));have HZ:=hid (jL q5.slice.2.1);have HL:=hid q5.slice.2.2.2;clear e5 q5;have HY:=hid hy;clear hy hc;have REL:Box (zec P y=true→∀ j z,j<k+1→P.ims[j]? = some z→zec P z=true):=hid fun hg j z hj hz=>by
          by_cases e:j<k
          ·exact HB.o j z e hz
          ·obtain rfl:j=k:=by omega
           rw[HY.o] at hz;cases hz;exact hg
         go_upto_region 22 with fail;generalize wr.alloc (.cells #[int i64 y.1,int i64 y.2.1,.slice ga y.2.2.length gp] 61)=w2 at *;generalize wr.heap.size=q at *;have s0:=zd HN.o 0;have s1:=zd HN.o 1;have s2:=zd HN.o 2;have c0:=C0.o _ HKA.o;have c2:=C2.o _ HKA.o;have c4:=C4.o _ HKA.o;have H1:=hid fun (m:Nat)=>HW.o y.1 n0 (w2.drewN m);have H2:=hid fun (m:Nat)=>HW.o y.2.1 n2 (w2.drewN m);have H3:=hid fun (m:Nat)=>HAW.o (w2.drewN m) (HKA.o.quiet (zc.drewN _ _ _)) ga gp y.2.2 HZ.o HL.o n4;have HIM:Box (zec P y=(inB y.1 n0 && (inB y.2.1 n2 && Zp y.2.2 n4))):=hid (by rw[N0.o,N2.o,N4.o];rfl);cases h1:inB y.1 n0 with
         | false=>
          rw[h1] at H1;have HE:Box (zF P=false):=hid (zcU (j7 HY.o (by rw[HIM.o,h1];rfl)));clear h1;go_quiet (first | (go_at_call 123;with_reducible exact Calls.quiet_of_same (H1.o _)));go_wp2_with fail;go_ret;exact ⟨by rw[HE.o];rfl,HKA.o.quiet (zc.drewN _ _ _)⟩
         | true=>
          rw[h1] at H1;cases h2:inB y.2.1 n2 with
          | false=>
           rw[h2] at H2;have HE:Box (zF P=false):=hid (zcU (j7 HY.o (by rw[HIM.o,h1,h2];rfl)));clear h1 h2;go_quiet (first | (go_at_call 123;with_reducible exact Calls.quiet_of_same (H1.o _)) | (go_at_call 123;with_reducible exact Calls.quiet_of_same (H2.o _)));go_wp2_with fail;go_ret;exact ⟨by rw[HE.o];rfl,HKA.o.quiet (zc.drewN _ _ _)⟩
          | true=>
           rw[h2] at H2;cases h3:Zp y.2.2 n4 with
           | false=>
            rw[h3] at H3;have HE:Box (zF P=false):=hid (zcU (j7 HY.o (by rw[HIM.o,h1,h2,h3];rfl)));clear h1 h2 h3;go_quiet (first | (go_at_call 123;with_reducible exact Calls.quiet_of_same (H1.o _)) | (go_at_call 123;with_reducible exact Calls.quiet_of_same (H2.o _)) | (go_at_call 191;with_reducible exact Calls.quiet_of_same (H3.o _)));go_wp2_with fail;go_ret;exact ⟨by rw[HE.o];rfl,HKA.o.quiet (zc.drewN _ _ _)⟩
           | true=>
            rw[h3] at H3;have HG:Box (zec P y=true):=hid (by rw[HIM.o,h1,h2,h3];rfl);clear h1 h2 h3;go_quiet (first | (go_at_call 123;with_reducible exact Calls.quiet_of_same (H1.o _)) | (go_at_call 123;with_reducible exact Calls.quiet_of_same (H2.o _)) | (go_at_call 191;with_reducible exact Calls.quiet_of_same (H3.o _)));go_wp2_with fail;go_roundw
            case rel=>exact ⟨k+1,by omega,by go_num,hid (HKA.o.quiet (zc.drewN _ _ _)),hid (REL.o HG.o)⟩
            case measure=>simp[intOf];omega
        ·obtain rfl:n3=k:=by omega
         have T3:Box (P.ims.all (zec P)=true):=hid (qW (fun j y hy=>HB.o j y (by rw[N3.o];exact (List.getElem?_eq_some_iff.1 hy).1) hy));have HE:Box (zF P=true):=hid (by unfold zF;rw[T0.o,T1.o,T2.o,T3.o];rfl);clear HB hk;go_wp2_with fail;go_ret;exact ⟨by rw[HE.o];rfl,HK.o⟩
theorem zgZ(h:PrC w pb po P)(ha:zjI P):Calls Tryz.prog 82 #[pointer (some ⟨pb,po,none⟩)] w (Z5 (zB P) 3 w):=by
 have HT:=hid (ze4 h);have HF:=hid fun (w':World) (k:zc [] w w') (f:Nat) (hf:f<P.funcs.length)=>zdP (PrC.stays _ _ _ _ _ k h) ha hf;have HRF:=hid fun (w':World)=>ZB 3 w';have HW:=hid fun (w':World)=>z6 P.main P.funcs.length w';obtain ⟨fa,fp,c4,_,_,hfl⟩:=h.c4;have c5:=h.c5.1;have C4:Box (∀ w',zc [] w w'→w'.cell? ⟨pb,po+4,none⟩=some (.slice fa P.funcs.length fp)):=hid fun w' k=>za k c4;have C5:Box (∀ w',zc [] w w'→w'.cell? ⟨pb,po+5,none⟩=some (int i64 P.main)):=hid fun w' k=>za k c5;have HT0:=hid (Jg (P:=P));have HFN:=hid fun (h1:zF P=true) (k:Nat) (h2:k<P.funcs.length) (h3:∀ j,j<k→J5 P j=none) (q:Int × Int × Int) (h4:J5 P k=some q)=>zbN h1 h2 h3 h4;have HEND:=hid fun (h1:zF P=true) (h3:∀ j,j<P.funcs.length→J5 P j=none)=>za6 h1 h3;clear h ha c4 c5;obtain ⟨n,hn⟩:∃ n,n=P.funcs.length:=⟨_,rfl⟩;rw[← hn] at C4 hfl HW HEND;have HN:=hid hn;have hn9:(n:Int)≤9223372036854775807:=by unfold maxLen at hfl;omega
 clear hn hfl;go_enter Tryz.func82,Tryz.ntmps82;go_wp2_with fail;refine HT.o.mono ?_;rintro e w1 ⟨rfl,k1⟩;have K1:=hid k1;clear k1 HT;cases ht:zF P with
 | false=>
  have HQ:=hid (HT0.o ht);go_wp2_with fail;refine (HRF.o _).mono ?_;rintro e w2 ⟨p,rfl,h1,h2⟩;go_wp2_with fail;go_ret;exact Z5.no HQ.o ⟨p,rfl,h1,K1.o.quiet h2⟩
 | true=>
  have HTT:=hid ht;clear ht;have c4:=C4.o _ K1.o;go_wp2_with fail;clear c4
  go_loopw [18] (fun kv wr=>∃ k:Nat,k≤n∧kv=int i64 (k:Int)∧Box (zc [] w wr)∧Box (∀ j,j<k→J5 P j=none)) (fun kv _=>n - (intOf kv).toNat)
  case atStart=>exact ⟨0,by omega,rfl,K1,hid fun j hj=>by omega⟩
  case round=>
   obtain ⟨k,hk,rfl,HK,HB⟩:=hrel;clear K1;by_cases hlt:k<n
   ·have hlt':(k:Int)<(n:Int):=by omega
    have HC:=hid (HF.o wr HK.o k (by rw[← HN.o];exact hlt));go_wp2_with fail;refine HC.o.mono ?_;intro e w2 hp;cases hq:J5 P k with
    | none=>
     rw[hq] at hp;obtain ⟨rfl,k2⟩:=hp;have K2:=hid (HK.o.quiet k2);have HB2:Box (∀ j,j<k+1→J5 P j=none):=hid fun j hj=>by
      by_cases e:j<k
      ·exact HB.o j e
      ·obtain rfl:j=k:=by omega
       exact hq
     clear k2 hq;go_wp2_with fail;go_roundw
     case rel=>exact ⟨k+1,by omega,by go_num,K2,HB2⟩
     case measure=>simp[intOf];omega
    | some q=>
     rw[hq] at hp;obtain ⟨p,rfl,h1,k2⟩:=hp;have HQ:=hid (HFN.o HTT.o k (by rw[← HN.o];exact hlt) HB.o q hq);have H1:=hid h1;have K2:=hid (HK.o.quiet k2);clear k2 hq h1;go_wp2_with fail;go_ret;exact Z5.no HQ.o ⟨p,rfl,H1.o,K2.o⟩
   ·obtain rfl:n=k:=by omega
    have HE:=hid (HEND.o HTT.o HB.o);have c4:=C4.o _ HK.o;have c5:=C5.o _ HK.o;go_upto_region 10 with fail;cases hm:inB P.main n with
    | true=>
     rw[hm] at HW HE;have HQ:Box (zB P=none):=hid (by rw[HE.o];rfl);clear hm;go_quiet ((go_at_call 123;exact Calls.quiet_of_same (HW.o _)));go_wp2_with fail;go_ret;exact Z5.yes HQ.o ⟨rfl,HK.o.quiet (zc.drewN _ _ _)⟩
    | false=>
     rw[hm] at HW HE;have HQ:Box (zB P=some (-1,0,0)):=hid (by rw[HE.o];rfl);clear hm;go_quiet ((go_at_call 123;exact Calls.quiet_of_same (HW.o _)));go_wp2_with fail;refine (HRF.o _).mono ?_;rintro e w2 ⟨p,rfl,h1,h2⟩;go_wp2_with fail;go_ret;exact Z5.no HQ.o ⟨p,rfl,h1,(HK.o.quiet (zc.drewN _ _ _)).quiet h2⟩
def zax(P:Pr8)(f:Fu8)(y:Bl8):Bool:=
 if y.fin=2 then (zq f y.reg).1 == 0
 else if y.fin=3 then (match Qp P f.sig with
  | none=>false
  | some s=>inB y.reg f.regs.length && tyE (f.regs.getD y.reg.toNat (0,0)) s.2) else true
theorem zh6{fb fo bb bo:Nat}{f:Fu8}{y:Bl8}(h:PrC w pb po P)(hf:FuC w fb fo f)(hb:BlC w bb bo y):Calls Tryz.prog 198 #[pointer (some ⟨pb,po,none⟩),pointer (some ⟨fb,fo,none⟩),pointer (some ⟨bb,bo,none⟩)] w fun e w'=>e=.returned (.bool (zax P f y))∧zc [] w w':=by
 have b1:=hb.c1.1;have b2:=hb.c2.1;by_cases f2:y.fin=2
 ·have HE:Box (zax P f y=((zq f y.reg).1 == 0)):=hid (by unfold zax;rw[if_pos f2])
  have HRT:=hid (zz hf y.reg);rw[f2] at b1;clear h hf hb f2;generalize zq f y.reg=T at *;unfold tyV at HRT;have hfl:∀ (w:World),(Instr.field 52 (agg #[int i64 T.1,int i64 T.2]) 0).run Tryz.prog w=.ok (int i64 T.1) w:=fun w=>by kernel_rfl
  go_enter Tryz.func198,Tryz.ntmps198;go_wp2_with fail;refine HRT.o.mono ?_;rintro e w1 ⟨rfl,k1⟩;have K1:=hid k1;clear k1;go_wp2_with fail;go_ret;exact ⟨by rw[HE.o];rfl,K1.o⟩
 by_cases f3:y.fin=3
 case neg=>
  have HE:Box (zax P f y=true):=hid (by unfold zax;rw[if_neg f2,if_neg f3]);have o2:=neb f2;have o3:=neb f3;clear h hf hb f2 f3;go_enter Tryz.func198,Tryz.ntmps198;go_wp2_with fail;go_ret;exact ⟨by rw[HE.o];rfl,zc.refl _ _⟩
 have HE:Box (zax P f y=match Qp P f.sig with
  | none=>false
  | some s=>inB y.reg f.regs.length && tyE (f.regs.getD y.reg.toNat (0,0)) s.2):=hid (by unfold zax;rw[if_neg f2,if_pos f3])
 have HSG:=hid (Jk h (zc.refl [] w) f.sig);obtain ⟨ra,rp,c1,rr,_,_⟩:=hf.c1;have c0:=hf.c0.1;have HRR:=hid rr;have C1:Box (∀ w',zc [] w w'→w'.cell? ⟨fb,fo+1,none⟩=some (.slice ra f.regs.length rp)∧w'.cell? ⟨bb,bo+2,none⟩=some (int i64 y.reg)):=hid (by have b:=b2;exact fun w' k=>⟨za k c1,za k b⟩);have HW:=hid fun (w':World)=>z6 y.reg f.regs.length w';rw[f3] at b1;clear h hf hb rr f2 f3 c1;generalize Qp P f.sig=O at *;go_enter Tryz.func198,Tryz.ntmps198;go_wp2_with fail;refine HSG.o.mono ?_;intro e w1 h1;obtain ⟨k1,sa,sp,n,t1,t2,rfl,hs⟩:=h1.open;have hbx:=zh w1 (.cells #[.slice sa n sp,int i64 t1,int i64 t2] 59);have K1:=hid (k1.quiet (zc.alloc [] w1 (.cells #[.slice sa n sp,int i64 t1,int i64 t2] 59)));have HB:=hid hbx;have HS:=hid hs;clear h1 k1 hbx hs c0 b1 b2;go_upto_region 6 with fail;generalize w1.alloc (.cells #[.slice sa n sp,int i64 t1,int i64 t2] 59)=w2 at *;generalize w1.heap.size=q at *;obtain ⟨c1,c2⟩:=C1.o _ K1.o;have s1:=zd HB.o 1;have s2:=zd HB.o 2;cases O with
 | none=>
  have HF:Box (zax P f y=false):=hid HE.o;clear HE HS;simp only[Option.isSome_none];go_quiet (fail);go_wp2_with fail;go_ret;exact ⟨by rw[HF.o];rfl,K1.o.quiet (zc.drewN _ _ _)⟩
 | some s=>
  obtain ⟨_,e1,e2,_⟩:=HS.o s rfl;have HF:Box (zax P f y=(inB y.reg f.regs.length && tyE (f.regs.getD y.reg.toNat (0,0)) (t1,t2))):=hid (by rw[HE.o,e1,e2]);clear HE HS e1 e2;simp only[Option.isSome_some];cases hin:inB y.reg f.regs.length with
  | false=>
   rw[hin] at HW;have HG:Box (zax P f y=false):=hid (by rw[HF.o,hin];rfl);clear hin HF;generalize f.regs.length=R at *;go_quiet ((go_at_call 123;exact Calls.quiet_of_same (HW.o _)));go_wp2_with fail;go_ret;exact ⟨by rw[HG.o];rfl,K1.o.quiet (zc.drewN _ _ _)⟩
  | true=>
   rw[hin] at HW;obtain ⟨g0,g1⟩:=zt.1 hin;obtain ⟨m,hm⟩:∃ m:Nat,y.reg=(m:Int):=⟨y.reg.toNat,by omega⟩;have HG:Box (zax P f y=tyE (f.regs.getD m (0,0)) (t1,t2)):=hid (by rw[HF.o,hin,hm];rfl);obtain ⟨b',off',rfl,hc'⟩:=HRR.o.at (zg (l:=f.regs) (k:=m) (d:=(0,0)) (by omega));have d0:=za K1.o hc'.c0.1;have d1:=za K1.o hc'.c1.1;rw[hm] at HW c2 g1;clear hin HF g0 hm hc';generalize f.regs.getD m (0,0)=T at *;generalize f.regs.length=R at *;have re:=fun w'=>ZS T.1 T.2 t1 t2 w';go_quiet ((go_at_call 123;exact Calls.quiet_of_same (HW.o _)));go_wp2_with fail;go_ret;exact ⟨by rw[HG.o];rfl,K1.o.quiet (zc.drewN _ _ _)⟩
def ptT(P:Pr8)(g:Fu8→In8→Bool)(q:Nat × Nat × Nat):Bool:=
 if q.2.2<(zr (zf P q.1) q.2.1).code.length then g (zf P q.1) (zT (zr (zf P q.1) q.2.1) q.2.2) else zax P (zf P q.1) (zr (zf P q.1) q.2.1)
def zlc(w:World)(pb po:Nat)(P:Pr8)(g:Fu8→In8→Bool):Prop:=
 ∀ (w':World) (f b i:Nat) (a:Option Addr) (cp:Nat),zc [] w w'→f<P.funcs.length→b<(zf P f).blocks.length→i<(zr (zf P f) b).code.length→zw w' a (zT (zr (zf P f) b) i).args→
  Calls Tryz.prog 197 #[pointer (some ⟨pb,po,none⟩),int i64 (f:Int),z8 (zT (zr (zf P f) b) i) (.slice a (zT (zr (zf P f) b) i).args.length cp)] w' fun e w2=>e=.returned (.bool (g (zf P f) (zT (zr (zf P f) b) i)))∧zc [] w' w2
theorem zjz(h:PrC w pb po P){g:Fu8→In8→Bool}(hg:zlc w pb po P g)(hq:Zh P f b i):Calls Tryz.prog 128 #[pointer (some ⟨pb,po,none⟩),agg #[int i64 (f:Int),int i64 (b:Int),int i64 (i:Int)]] w fun e w'=>e=.returned (.bool (ptT P g (f,b,i)))∧zc [] w w':=by
 obtain ⟨h1,h2,h3⟩:=hq;have ka:=zc.alloc [] w (.cells #[int i64 (f:Int),int i64 (b:Int),int i64 (i:Int)] 99);have hn:=zh w (.cells #[int i64 (f:Int),int i64 (b:Int),int i64 (i:Int)] 99);obtain ⟨fa,fp,c4,r4,_⟩:=h.c4;obtain ⟨fb,fo,rfl,hfu0⟩:=r4.at (zg (d:=⟨0,[],[]⟩) h1);have hfu:FuC w fb (fo+f * 3) (zf P f):=hfu0;obtain ⟨ba,bp,e2,rb,_⟩:=hfu.c2;obtain ⟨bb,bo,rfl,hbl0⟩:=rb.at (zg (d:=⟨[],0,0,0,0⟩) h2);have hbl:BlC w bb (bo+b * 5) (zr (zf P f) b):=hbl0;obtain ⟨ca,cp,e3,rc,_⟩:=hbl.c0;have HEN:=hid fun (w':World) (k:zc [] w w')=>zh6 (PrC.stays _ _ _ _ _ k h) (FuC.stays _ _ _ _ _ k hfu) (BlC.stays _ _ _ _ _ k hbl);have HFT:=hid hg;have HC:=hid rc;have C:Box (∀ w',zc [] w w'→w'.cell? ⟨pb,po+4,none⟩=some (.slice (some ⟨fb,fo,none⟩) P.funcs.length fp)∧w'.cell? ⟨fb,fo+f * 3+2,none⟩=some (.slice (some ⟨bb,bo,none⟩) (zf P f).blocks.length bp)∧w'.cell? ⟨bb,bo+b * 5,none⟩=some (.slice ca (zr (zf P f) b).code.length cp)):=hid fun w' k=>⟨za k c4,za k e2,za k e3⟩;obtain ⟨c4',e2',e3'⟩:=C.o _ ka;have q0:=zd hn 0;have q1:=zd hn 1;have q2:=zd hn 2;have KA:=hid ka;have HN:=hid hn;have h1':(f:Int)<(P.funcs.length:Int):=by omega
 have h2':(b:Int)<((zf P f).blocks.length:Int):=by omega
 have HH:=hid (And.intro h1 (And.intro h2 h3));have HE:Box (ptT P g (f,b,i)=if i<(zr (zf P f) b).code.length then g (zf P f) (zT (zr (zf P f) b) i) else zax P (zf P f) (zr (zf P f) b)):=hid rfl;obtain ⟨N,hN⟩:∃ N,N=(zr (zf P f) b).code.length:=⟨_,rfl⟩;have HNN:=hid hN;rw[← hN] at C e3' HE;clear h hfu0 hfu hbl0 hbl c4 e2 e3 rb rc r4 hg ka hn h1 h2 h3 hN;generalize hFN:P.funcs.length=FN at *;generalize hBN:(zf P f).blocks.length=BN at *;have HFN:=hid hFN;have HBN:=hid hBN;clear hFN hBN;go_enter Tryz.func128,Tryz.ntmps128;go_upto_region 1 with fail;generalize w.alloc (.cells #[int i64 (f:Int),int i64 (b:Int),int i64 (i:Int)] 99)=WA at *;generalize w.heap.size=q at *;go_quiet (fail);go_upto_region 2 with fail;go_quiet (fail);go_upto_region 3 with fail;by_cases hi:i<N
 ·have hi':(i:Int)<(N:Int):=by omega
  have HF:Box (ptT P g (f,b,i)=g (zf P f) (zT (zr (zf P f) b) i)):=hid (by rw[HE.o,if_pos hi]);have hif:i<(zr (zf P f) b).code.length:=by rw[← HNN.o];exact hi
  obtain ⟨ib,io,rfl,hin⟩:=HC.o.at (show (zr (zf P f) b).code[i]? = some (zT (zr (zf P f) b) i) from zg hif);obtain ⟨ga,gp,e5,q5⟩:=SlC.val hin.c5;have HZ:=hid (jL q5.slice.2.1);have HIF:=hid hif;have F0:=za KA.o hin.c0.1;have F1:=za KA.o hin.c1.1;have F2:=za KA.o hin.c2.1;have F3:=za KA.o hin.c3.1;have F4:=za KA.o hin.c4.1;have F5:=za KA.o e5;clear hin e5 q5 hif;have HX:=hid fun (w':World) (k:zc [] w w')=>HFT.o w' f b i ga gp k (by rw[HFN.o];omega) (by rw[HBN.o];omega) HIF.o (HZ.o.kept k (fun _ _ _=>by simp));unfold z8 at HX;generalize g (zf P f) (zT (zr (zf P f) b) i)=rr at *;generalize zT (zr (zf P f) b) i=x at *;clear HFT HEN HE HC HNN HFN HBN HIF HZ hi;go_quiet (fail);go_upto_region 4 with fail
  go_region_held3 (fun w'=>w'.cell? ⟨q,0,none⟩=some (int i64 (f:Int))∧w'.cell? ⟨q,2,none⟩=some (int i64 (i:Int))∧w'.cell? ⟨bb,bo+b * 5,none⟩=some (.slice (some ⟨ib,io,none⟩) N cp)∧w'.cell? ⟨ib,io+i * 6,none⟩=some (int i64 x.op)∧w'.cell? ⟨ib,io+i * 6+1,none⟩=some (int i64 x.dst)∧w'.cell? ⟨ib,io+i * 6+2,none⟩=some (int i64 x.a)∧w'.cell? ⟨ib,io+i * 6+3,none⟩=some (int i64 x.b)∧w'.cell? ⟨ib,io+i * 6+4,none⟩=some (int i64 x.n)∧w'.cell? ⟨ib,io+i * 6+5,none⟩=some (.slice ga x.args.length gp)) (go_keep) (first
   | (go_at_call 197;refine Calls.mono (HX.o _ ?_) ?_;exact ⟨KA.o.os,KA.o.tape,KA.o.output,KA.o.size,KA.o.block⟩;rintro e w5 ⟨rfl,k5⟩;have K5:zc [] WA w5:=⟨k5.os,k5.tape,k5.output,k5.size,k5.block⟩;have f0:=za K5 q0;have f2:=za K5 q2;have f3:=za K5 e3';have g0:=za K5 F0;have g1:=za K5 F1;have g2:=za K5 F2;have g3:=za K5 F3;have g4:=za K5 F4;have g5:=za K5 F5;have HK5:=hid K5;clear k5))
  go_wp2_with fail;go_ret;exact ⟨by rw[HF.o];rfl,KA.o.quiet HK5.o⟩
 ·have hi':¬ (i:Int)<(N:Int):=by omega
  have HF:Box (ptT P g (f,b,i)=zax P (zf P f) (zr (zf P f) b)):=hid (by rw[HE.o,if_neg hi]);generalize zax P (zf P f) (zr (zf P f) b)=rr at *;go_quiet (fail);go_wp2_with fail;refine (HEN.o _ ?_).mono ?_
  ·exact KA.o.quiet (by first | exact zc.drewN _ _ _)
  rintro e w1 ⟨rfl,k1⟩;have K1:=hid k1;clear k1;go_wp2_with fail;go_ret;exact ⟨by rw[HF.o];rfl,(KA.o.quiet (zc.drewN _ _ _)).quiet K1.o⟩
def ZW(P:Pr8)(g:Fu8→In8→Bool):Option (Int × Int × Int):=
 if (List.range P.funcs.length).all (fun f=>Q9 P (zf P f)) then (match (pts P).find? (fun q=> !ptT P g q) with
  | some q=>some (ptI q)
  | none=>if ZD P then none else some (-1,0,0)) else some (-1,0,0)
theorem zfS{g:Fu8→In8→Bool}(hk:k<P.funcs.length)(h:Q9 P (zf P k)=false):ZW P g=some (-1,0,0):=by
 unfold ZW;have:(List.range P.funcs.length).all (fun f=>Q9 P (zf P f))=false:=List.all_eq_false.2 ⟨k,List.mem_range.2 hk,by rw[h];simp⟩;rw[this];rfl
theorem zmq{g:Fu8→In8→Bool}(hp:∀ k,k<P.funcs.length→Q9 P (zf P k)=true){q:Nat × Nat × Nat}(hq:(pts P)[n]? = some q)(hl:∀ j x,j<n→(pts P)[j]? = some x→ptT P g x=true)(h:ptT P g q=false):ZW P g=some (ptI q):=by
 unfold ZW;rw[if_pos (List.all_eq_true.2 fun k hk=>hp k (List.mem_range.1 hk))];have hn:=(List.getElem?_eq_some_iff.1 hq).1;have e:pts P=(pts P).take n ++ q :: (pts P).drop (n+1):=by
  have h2:=List.take_append_drop n (pts P);rw[List.drop_eq_getElem_cons hn,(List.getElem?_eq_some_iff.1 hq).2] at h2;exact h2.symm
 rw[e,zaI (l:=(pts P).take n) (fun x hx=> ?_) (by rw[h];rfl)];obtain ⟨j,hj⟩:=List.getElem?_of_mem hx;rw[List.getElem?_take] at hj;split at hj
 ·rename_i hjn
  rw[hl j x hjn hj];rfl
 ·cases hj
theorem zjD{g:Fu8→In8→Bool}(hp:∀ k,k<P.funcs.length→Q9 P (zf P k)=true)(hl:∀ (j:Nat) (x:Nat × Nat × Nat),(pts P)[j]? = some x→ptT P g x=true):ZW P g=if ZD P then none else some (-1,0,0):=by
 unfold ZW;rw[if_pos (List.all_eq_true.2 fun k hk=>hp k (List.mem_range.1 hk)),zbY (fun x hx=> ?_)];obtain ⟨j,hj⟩:=List.getElem?_of_mem hx;rw[hl j x hj];rfl
theorem zeH(h:PrC w pb po P)(hs:zcu P){g:Fu8→In8→Bool}(hg:zlc w pb po P g):Calls Tryz.prog 84 #[pointer (some ⟨pb,po,none⟩)] w (Z5 (ZW P g) 4 w):=by
 obtain ⟨fa,fp,c4,r4,_⟩:=h.c4;have HP:=hid h;have HR:=hid r4;have HPT:=hid fun (w':World) (k:zc [] w w')=>Qb (PrC.stays _ _ _ _ _ k h) hs;have HG:Box (∀ w',zc [] w w'→zlc w' pb po P g):=hid fun w' k w2 f b i a cp k2=>hg w2 f b i a cp (k.quiet k2);have HM:=hid fun (w':World) (k:zc [] w w')=>zhD (PrC.stays _ _ _ _ _ k h);have HRF:=hid fun (w':World)=>ZB 4 w';have HRA:=hid fun (f b i:Int) (w':World)=>Zx 4 f b i w';have C4:Box (∀ w',zc [] w w'→w'.cell? ⟨pb,po+4,none⟩=some (.slice fa P.funcs.length fp)):=hid fun w' k=>za k c4;have B1:=hid fun (k:Nat) (hk:k<P.funcs.length) (h:Q9 P (zf P k)=false)=>zfS (g:=g) hk h;have B2:=hid fun (hp:∀ k,k<P.funcs.length→Q9 P (zf P k)=true) (n:Nat) (q:Nat × Nat × Nat) (hq:(pts P)[n]? = some q) (hl:∀ j x,j<n→(pts P)[j]? = some x→ptT P g x=true) (h:ptT P g q=false)=>zmq (g:=g) hp hq hl h;have B3:=hid fun (hp:∀ k,k<P.funcs.length→Q9 P (zf P k)=true) (hl:∀ (j:Nat) (x:Nat × Nat × Nat),(pts P)[j]? = some x→ptT P g x=true)=>zjD (g:=g) hp hl;have hf12:=hs.fn;have hp45:=hs.pts;obtain ⟨N,hN⟩:∃ N,N=P.funcs.length:=⟨_,rfl⟩;obtain ⟨M,hM⟩:∃ M,M=(pts P).length:=⟨_,rfl⟩;have HN:=hid hN;have HMM:=hid hM;rw[← hN] at C4 c4 hf12;rw[← hM] at HPT hp45;have hf9:(N:Int)≤12:=by omega
 have hp9:(M:Int)≤4500:=by omega
 clear h r4 hs hg hN hM;go_enter Tryz.func84,Tryz.ntmps84;go_wp2_with fail;clear c4
 go_loopw [14] (fun kv wr=>∃ k:Nat,k≤N∧kv=int i64 (k:Int)∧Box (zc [] w wr)∧Box (∀ j,j<k→Q9 P (zf P j)=true)) (fun kv _=>N - (intOf kv).toNat)
 case atStart=>exact ⟨0,by omega,rfl,hid (zc.refl _ _),hid fun j hj=>by omega⟩
 case round=>
  obtain ⟨k,hk,rfl,HK,HA⟩:=hrel;by_cases hlt:k<N
  ·have hlt':(k:Int)<(N:Int):=by omega
   have hkf:k<P.funcs.length:=by rw[← HN.o];exact hlt
   obtain ⟨fb,fo,rfl,hfu0⟩:=HR.o.at (zg (d:=⟨0,[],[]⟩) hkf);have hfu:FuC w fb (fo+k * 3) (zf P k):=hfu0;have HC:=hid (zk2 (PrC.stays _ _ _ _ _ HK.o HP.o) (FuC.stays _ _ _ _ _ HK.o hfu));have c4:=C4.o _ HK.o;have HB1:=hid (B1.o k hkf);clear hfu0 hfu hkf;cases hg:Q9 P (zf P k) with
   | true=>
    rw[hg] at HC;have HA2:Box (∀ j,j<k+1→Q9 P (zf P j)=true):=hid fun j hj=>by
     by_cases e:j<k
     ·exact HA.o j e
     ·obtain rfl:j=k:=by omega
      exact hg
    clear hg;go_wp2_with fail;refine HC.o.mono ?_;rintro e w2 ⟨rfl,k2⟩;have K2:=hid (HK.o.quiet k2);clear k2;go_wp2_with fail;go_roundw
    case rel=>exact ⟨k+1,by omega,by go_num,K2,HA2⟩
    case measure=>simp[intOf];omega
   | false=>
    rw[hg] at HC;have HQ:=hid (HB1.o hg);clear hg;go_wp2_with fail;refine HC.o.mono ?_;rintro e w2 ⟨rfl,k2⟩;have K2:=hid (HK.o.quiet k2);clear k2;go_wp2_with fail;refine (HRF.o _).mono ?_;rintro e w3 ⟨p,rfl,h1,h2⟩;go_wp2_with fail;go_ret;exact Z5.no HQ.o ⟨p,rfl,h1,K2.o.quiet h2⟩
  ·obtain rfl:N=k:=by omega
   have HALL:Box (∀ k,k<P.funcs.length→Q9 P (zf P k)=true):=hid fun j hj=>HA.o j (by rw[HN.o];exact hj);clear HA;go_wp2_with fail;refine (HPT.o _ HK.o).mono ?_;rintro e w2 ⟨la,lp,rfl,hr,k2⟩;have HRW:=hid hr;have K2:=hid (HK.o.quiet k2);clear hr k2;go_wp2_with fail
   go_loopw [31] (fun kv wr=>∃ k:Nat,k≤M∧kv=int i64 (k:Int)∧Box (zc [] w2 wr)∧Box (∀ j x,j<k→(pts P)[j]? = some x→ptT P g x=true)) (fun kv _=>M - (intOf kv).toNat)
   case atStart=>exact ⟨0,by omega,rfl,hid (zc.refl _ _),hid fun j x hj=>by omega⟩
   case round=>
    obtain ⟨k,hk,rfl,HK,HA⟩:=hrel;by_cases hlt:k<M
    ·have hlt':(k:Int)<(M:Int):=by omega
     obtain ⟨f,b,i,hpt,hq⟩:=zd0 (p:=P) (n:=k) (by rw[← HMM.o];exact hlt);obtain ⟨lb,lo,rfl,hc⟩:=HRW.o.at hq;have d0:=za HK.o hc.c0;have d1:=za HK.o hc.c1;have d2:=za HK.o hc.c2;have KA:=hid (HK.o.quiet (zc.alloc [] wr (.cells #[int i64 (f:Int),int i64 (b:Int),int i64 (i:Int)] 99)));have hn:=zh wr (.cells #[int i64 (f:Int),int i64 (b:Int),int i64 (i:Int)] 99);have HC:=hid (zjz (PrC.stays _ _ _ _ _ (K2.o.quiet KA.o) HP.o) (HG.o _ (K2.o.quiet KA.o)) hpt);have HQQ:=hid hq;have HNW:=hid hn;have HB2:=hid (B2.o HALL.o k (f,b,i) hq HA.o);clear hc hq hpt hn;cases hg:ptT P g (f,b,i) with
     | true=>
      rw[hg] at HC;have HA2:Box (∀ j x,j<k+1→(pts P)[j]? = some x→ptT P g x=true):=hid fun j x hj hx=>by
       by_cases e:j<k
       ·exact HA.o j x e hx
       ·obtain rfl:j=k:=by omega
        rw[HQQ.o] at hx;cases hx;exact hg
      clear hg;go_wp2_with fail;refine HC.o.mono ?_;rintro e w4 ⟨rfl,k4⟩;have K4:=hid (KA.o.quiet k4);clear k4;go_wp2_with fail;go_roundw
      case rel=>exact ⟨k+1,by omega,by go_num,K4,HA2⟩
      case measure=>simp[intOf];omega
     | false=>
      rw[hg] at HC;have HQ:=hid (HB2.o hg);clear hg;go_wp2_with fail;refine HC.o.mono ?_;rintro e w4 ⟨rfl,k4⟩;have K4:=hid (K2.o.quiet (KA.o.quiet k4));have h4:=ze HNW.o k4;have s0:=zd h4 0;have s1:=zd h4 1;have s2:=zd h4 2;clear k4 h4;go_wp2_with fail;refine (HRA.o _ _ _ _).mono ?_;rintro e w5 ⟨p,rfl,h1,h2⟩;go_wp2_with fail;go_ret;exact Z5.no HQ.o ⟨p,rfl,h1,K4.o.quiet h2⟩
    ·obtain rfl:M=k:=by omega
     have HE:=hid (B3.o HALL.o (fun j x hx=>HA.o j x (by rw[HMM.o];exact (List.getElem?_eq_some_iff.1 hx).1) hx));have HC:=hid (HM.o wr (K2.o.quiet HK.o));cases hm:ZD P with
     | true=>
      rw[hm] at HE HC;have HQ:Box (ZW P g=none):=hid (by rw[HE.o];rfl);clear hm;go_wp2_with fail;refine HC.o.mono ?_;rintro e w4 ⟨rfl,k4⟩;have K4:=hid ((K2.o.quiet HK.o).quiet k4);clear k4;go_wp2_with fail;go_ret;exact Z5.yes HQ.o ⟨rfl,K4.o⟩
     | false=>
      rw[hm] at HE HC;have HQ:Box (ZW P g=some (-1,0,0)):=hid (by rw[HE.o];rfl);clear hm;go_wp2_with fail;refine HC.o.mono ?_;rintro e w4 ⟨rfl,k4⟩;have K4:=hid ((K2.o.quiet HK.o).quiet k4);clear k4;go_wp2_with fail;refine (HRF.o _).mono ?_;rintro e w5 ⟨p,rfl,h1,h2⟩;go_wp2_with fail;go_ret;exact Z5.no HQ.o ⟨p,rfl,h1,K4.o.quiet h2⟩
section
open Go.ChangeShapes Go.WideShapes Go.ChangeAt
theorem ZE(h:qJ P=true):qF P.funcs 12 fnB=true:=by
 unfold qJ zen at h;simp only[Bool.and_eq_true] at h;exact h.1.2.2.2.2.2
theorem Jp(h:qJ P=true):zjI P:=by
 intro f b i hf hb hi;have h1:fnB (zf P f)=true:=Za (ZE h) (zg hf);unfold fnB at h1;simp only[Bool.and_eq_true] at h1;have h2:zbZ (zr (zf P f) b)=true:=Za h1.2.2 (zg hb);have h3:zdC (zT (zr (zf P f) b) i)=true:=Za h2 (zg hi);unfold zdC at h3;have:=of_decide_eq_true h3;omega
end
end Go.Proofs.YthflgjkmbakedaaGreatDoor
